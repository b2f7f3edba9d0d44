/- Layer hold: places, told. No condition. -/
import Derived.Test.YteblnjgghbclpaaDoorHi
set_option linter.unusedVariables false
set_option linter.unusedSimpArgs false
set_option linter.deprecated false
namespace Go.Proofs.YteblnjgghbclpaaDoor.hold
open Go Go.Proofs.YteblnjgghbclpaaDoor.Sx
noncomputable section
abbrev TTmayM : Tab := T hold.Φ cMayM.roms [cMay]
def pcmayM_0 : List BE := [(BE.lit true)]
def pcmayM_1 : List BE := ((BE.le (IE.lit 0) (IE.var .i64 1)) :: pcmayM_0)
def pcmayM_2 : List BE := ((BE.not (BE.le (IE.lit 256) (IE.var .i64 1))) :: pcmayM_1)
def pcmayM_3 : List BE := ((BE.le (IE.lit 1) (IE.var .i64 2)) :: pcmayM_2)
def pcmayM_4 : List BE := ((BE.le (IE.var .i64 2) (IE.lit 1099511627776)) :: pcmayM_3)
def pcmayM_5 : List BE := ((BE.not (BE.eq (IE.var .i64 3) (IE.lit 0))) :: pcmayM_4)
def wmayM_0 : VW := (VW.done ((BE.le (IE.lit 256) (IE.var .i64 1)) :: pcmayM_1) (some [(G.b (BE.and (BE.le (IE.lit 1) (IE.var .i64 3)) (BE.and (BE.le (IE.var .i64 3) (IE.lit 5)) (BE.fn 2 (AL.int .i64 (IE.var .i64 1) (AL.int .i64 (IE.var .i64 2) (AL.int .i64 (IE.var .i64 3) AL.nil)))))) (BE.lit false))]))
def wmayM_1 : VW := (VW.done ((BE.eq (IE.var .i64 3) (IE.lit 0)) :: pcmayM_4) (some []))
def wmayM_2 : VW := (VW.done ((BE.le (IE.lit 0) (IE.var .i64 3)) :: pcmayM_5) (some [(G.b (BE.and (BE.le (IE.lit 1) (IE.var .i64 3)) (BE.and (BE.le (IE.var .i64 3) (IE.lit 5)) (BE.fn 2 (AL.int .i64 (IE.var .i64 1) (AL.int .i64 (IE.var .i64 2) (AL.int .i64 (IE.var .i64 3) AL.nil)))))) (BE.le (IE.var .i64 3) (IE.lit 5)))]))
def wmayM_3 : VW := (VW.done ((BE.not (BE.le (IE.lit 0) (IE.var .i64 3))) :: pcmayM_5) (some []))
def wmayM_4 : VW := (VW.done ((BE.not (BE.le (IE.var .i64 2) (IE.lit 1099511627776))) :: pcmayM_3) (some [(G.b (BE.and (BE.le (IE.lit 1) (IE.var .i64 3)) (BE.and (BE.le (IE.var .i64 3) (IE.lit 5)) (BE.fn 2 (AL.int .i64 (IE.var .i64 1) (AL.int .i64 (IE.var .i64 2) (AL.int .i64 (IE.var .i64 3) AL.nil)))))) (BE.lit false))]))
def wmayM_5 : VW := (VW.done ((BE.not (BE.le (IE.lit 1) (IE.var .i64 2))) :: pcmayM_2) (some [(G.b (BE.and (BE.le (IE.lit 1) (IE.var .i64 3)) (BE.and (BE.le (IE.var .i64 3) (IE.lit 5)) (BE.fn 2 (AL.int .i64 (IE.var .i64 1) (AL.int .i64 (IE.var .i64 2) (AL.int .i64 (IE.var .i64 3) AL.nil)))))) (BE.lit false))]))
def wmayM_6 : VW := (VW.done ((BE.not (BE.le (IE.lit 0) (IE.var .i64 1))) :: pcmayM_0) (some [(G.b (BE.and (BE.le (IE.lit 1) (IE.var .i64 3)) (BE.and (BE.le (IE.var .i64 3) (IE.lit 5)) (BE.fn 2 (AL.int .i64 (IE.var .i64 1) (AL.int .i64 (IE.var .i64 2) (AL.int .i64 (IE.var .i64 3) AL.nil)))))) (BE.lit false))]))
def vwmayM : List VW := [wmayM_0, wmayM_1, wmayM_2, wmayM_3, wmayM_4, wmayM_5, wmayM_6]
end
theorem vcmayM_0 : VD TTmayM (st0 cMayM) wmayM_0 := by
  intro ρ kn hp
  have hF : ρ.z.F = hold.Φ := kn.F
  simp only [h_nil, h_cons, d_le, d_eq, d_not, d_var, d_lit, d_cel, d_leq, d_fn, d_and, d_iff, IE.den, LE.den, AL.den, lenV, true_and, and_true, pcmayM_1, pcmayM_0, hF, pi1, pi2, pi3, pi4, pl2, pb1, pb2, pb3, pb4, pb5, pb6] at hp
  obtain ⟨p1, p2⟩ := hp
  refine all_cons (show ((decide ((1 : Int) ≤ (ρ.i .i64 3))) && ((decide ((ρ.i .i64 3) ≤ (5 : Int))) && (ρ.z.F.b 2 [.int .i64 (ρ.i .i64 1), .int .i64 (ρ.i .i64 2), .int .i64 (ρ.i .i64 3)]))) = false from ?_) (all_nil)
  all_goals try simp only [hF, pi1, pi2, pi3, pi4, pl2, pb1, pb2, pb3, pb4, pb5, pb6]
  all_goals first | omega | skip
  all_goals
    apply beq_of
    simp only [fits_iff, may_iff, decide_eq_true_eq, Bool.and_eq_true, Bool.not_eq_true', Bool.false_eq_true, true_iff, iff_true, false_iff, iff_false, decide_eq_false_iff_not] at *
    omega
theorem vcmayM_1 : VD TTmayM (st0 cMayM) wmayM_1 := by
  intro ρ kn hp
  exact all_nil
theorem vcmayM_2 : VD TTmayM (st0 cMayM) wmayM_2 := by
  intro ρ kn hp
  have hF : ρ.z.F = hold.Φ := kn.F
  simp only [h_nil, h_cons, d_le, d_eq, d_not, d_var, d_lit, d_cel, d_leq, d_fn, d_and, d_iff, IE.den, LE.den, AL.den, lenV, true_and, and_true, pcmayM_5, pcmayM_4, pcmayM_3, pcmayM_2, pcmayM_1, pcmayM_0, hF, pi1, pi2, pi3, pi4, pl2, pb1, pb2, pb3, pb4, pb5, pb6] at hp
  obtain ⟨p1, p2, p3, p4, p5, p6⟩ := hp
  refine all_cons (show ((decide ((1 : Int) ≤ (ρ.i .i64 3))) && ((decide ((ρ.i .i64 3) ≤ (5 : Int))) && (ρ.z.F.b 2 [.int .i64 (ρ.i .i64 1), .int .i64 (ρ.i .i64 2), .int .i64 (ρ.i .i64 3)]))) = (decide ((ρ.i .i64 3) ≤ (5 : Int))) from ?_) (all_nil)
  all_goals try simp only [hF, pi1, pi2, pi3, pi4, pl2, pb1, pb2, pb3, pb4, pb5, pb6]
  all_goals first | omega | skip
  all_goals
    apply beq_of
    simp only [fits_iff, may_iff, decide_eq_true_eq, Bool.and_eq_true, Bool.not_eq_true', Bool.false_eq_true, true_iff, iff_true, false_iff, iff_false, decide_eq_false_iff_not] at *
    omega
theorem vcmayM_3 : VD TTmayM (st0 cMayM) wmayM_3 := by
  intro ρ kn hp
  exact all_nil
theorem vcmayM_4 : VD TTmayM (st0 cMayM) wmayM_4 := by
  intro ρ kn hp
  have hF : ρ.z.F = hold.Φ := kn.F
  simp only [h_nil, h_cons, d_le, d_eq, d_not, d_var, d_lit, d_cel, d_leq, d_fn, d_and, d_iff, IE.den, LE.den, AL.den, lenV, true_and, and_true, pcmayM_3, pcmayM_2, pcmayM_1, pcmayM_0, hF, pi1, pi2, pi3, pi4, pl2, pb1, pb2, pb3, pb4, pb5, pb6] at hp
  obtain ⟨p1, p2, p3, p4⟩ := hp
  refine all_cons (show ((decide ((1 : Int) ≤ (ρ.i .i64 3))) && ((decide ((ρ.i .i64 3) ≤ (5 : Int))) && (ρ.z.F.b 2 [.int .i64 (ρ.i .i64 1), .int .i64 (ρ.i .i64 2), .int .i64 (ρ.i .i64 3)]))) = false from ?_) (all_nil)
  all_goals try simp only [hF, pi1, pi2, pi3, pi4, pl2, pb1, pb2, pb3, pb4, pb5, pb6]
  all_goals first | omega | skip
  all_goals
    apply beq_of
    simp only [fits_iff, may_iff, decide_eq_true_eq, Bool.and_eq_true, Bool.not_eq_true', Bool.false_eq_true, true_iff, iff_true, false_iff, iff_false, decide_eq_false_iff_not] at *
    omega
theorem vcmayM_5 : VD TTmayM (st0 cMayM) wmayM_5 := by
  intro ρ kn hp
  have hF : ρ.z.F = hold.Φ := kn.F
  simp only [h_nil, h_cons, d_le, d_eq, d_not, d_var, d_lit, d_cel, d_leq, d_fn, d_and, d_iff, IE.den, LE.den, AL.den, lenV, true_and, and_true, pcmayM_2, pcmayM_1, pcmayM_0, hF, pi1, pi2, pi3, pi4, pl2, pb1, pb2, pb3, pb4, pb5, pb6] at hp
  obtain ⟨p1, p2, p3⟩ := hp
  refine all_cons (show ((decide ((1 : Int) ≤ (ρ.i .i64 3))) && ((decide ((ρ.i .i64 3) ≤ (5 : Int))) && (ρ.z.F.b 2 [.int .i64 (ρ.i .i64 1), .int .i64 (ρ.i .i64 2), .int .i64 (ρ.i .i64 3)]))) = false from ?_) (all_nil)
  all_goals try simp only [hF, pi1, pi2, pi3, pi4, pl2, pb1, pb2, pb3, pb4, pb5, pb6]
  all_goals first | omega | skip
  all_goals
    apply beq_of
    simp only [fits_iff, may_iff, decide_eq_true_eq, Bool.and_eq_true, Bool.not_eq_true', Bool.false_eq_true, true_iff, iff_true, false_iff, iff_false, decide_eq_false_iff_not] at *
    omega
theorem vcmayM_6 : VD TTmayM (st0 cMayM) wmayM_6 := by
  intro ρ kn hp
  have hF : ρ.z.F = hold.Φ := kn.F
  simp only [h_nil, h_cons, d_le, d_eq, d_not, d_var, d_lit, d_cel, d_leq, d_fn, d_and, d_iff, IE.den, LE.den, AL.den, lenV, true_and, and_true, pcmayM_0, hF, pi1, pi2, pi3, pi4, pl2, pb1, pb2, pb3, pb4, pb5, pb6] at hp
  have p1 := hp
  refine all_cons (show ((decide ((1 : Int) ≤ (ρ.i .i64 3))) && ((decide ((ρ.i .i64 3) ≤ (5 : Int))) && (ρ.z.F.b 2 [.int .i64 (ρ.i .i64 1), .int .i64 (ρ.i .i64 2), .int .i64 (ρ.i .i64 3)]))) = false from ?_) (all_nil)
  all_goals try simp only [hF, pi1, pi2, pi3, pi4, pl2, pb1, pb2, pb3, pb4, pb5, pb6]
  all_goals first | omega | skip
  all_goals
    apply beq_of
    simp only [fits_iff, may_iff, decide_eq_true_eq, Bool.and_eq_true, Bool.not_eq_true', Bool.false_eq_true, true_iff, iff_true, false_iff, iff_false, decide_eq_false_iff_not] at *
    omega
theorem told_mayM : Sx.Told hold.Φ cMayM := told_vw (cs := [cMay]) (all_cons told_may (all_nil)) 4000 vwmayM (by kernel_rfl) (by kernel_rfl) (by kernel_rfl) (post_nil rfl) (by kernel_rfl) (by kernel_rfl) (all_cons vcmayM_0 (all_cons vcmayM_1 (all_cons vcmayM_2 (all_cons vcmayM_3 (all_cons vcmayM_4 (all_cons vcmayM_5 (all_cons vcmayM_6 (all_nil))))))))
noncomputable section
abbrev TTrightM : Tab := T hold.Φ cRightM.roms [cRight1]
def pcrightM_0 : List BE := [(BE.lit true)]
def pcrightM_1 : List BE := ((BE.le (IE.lit 0) (IE.var .i64 1)) :: pcrightM_0)
def pcrightM_2 : List BE := ((BE.le (IE.var .i64 1) (IE.lit 255)) :: pcrightM_1)
def pcrightM_3 : List BE := ((BE.le (IE.lit 1) (IE.var .i64 2)) :: pcrightM_2)
def pcrightM_4 : List BE := ((BE.le (IE.var .i64 2) (IE.lit 1099511627776)) :: pcrightM_3)
def pcrightM_5 : List BE := ((BE.le (IE.lit 1) (IE.var .i64 3)) :: pcrightM_4)
def wrightM_0 : VW := (VW.done ((BE.le (IE.var .i64 3) (IE.lit 5)) :: pcrightM_5) (some [(G.b (BE.and (BE.le (IE.lit 1) (IE.var .i64 3)) (BE.and (BE.le (IE.var .i64 3) (IE.lit 5)) (BE.fn 2 (AL.int .i64 (IE.var .i64 1) (AL.int .i64 (IE.var .i64 2) (AL.int .i64 (IE.var .i64 3) AL.nil)))))) (BE.lit true))]))
def wrightM_1 : VW := (VW.done ((BE.not (BE.le (IE.var .i64 3) (IE.lit 5))) :: pcrightM_5) (some []))
def wrightM_2 : VW := (VW.done ((BE.not (BE.le (IE.lit 1) (IE.var .i64 3))) :: pcrightM_4) (some []))
def wrightM_3 : VW := (VW.done ((BE.not (BE.le (IE.var .i64 2) (IE.lit 1099511627776))) :: pcrightM_3) (some [(G.b (BE.and (BE.le (IE.lit 1) (IE.var .i64 3)) (BE.and (BE.le (IE.var .i64 3) (IE.lit 5)) (BE.fn 2 (AL.int .i64 (IE.var .i64 1) (AL.int .i64 (IE.var .i64 2) (AL.int .i64 (IE.var .i64 3) AL.nil)))))) (BE.lit false))]))
def wrightM_4 : VW := (VW.done ((BE.not (BE.le (IE.lit 1) (IE.var .i64 2))) :: pcrightM_2) (some [(G.b (BE.and (BE.le (IE.lit 1) (IE.var .i64 3)) (BE.and (BE.le (IE.var .i64 3) (IE.lit 5)) (BE.fn 2 (AL.int .i64 (IE.var .i64 1) (AL.int .i64 (IE.var .i64 2) (AL.int .i64 (IE.var .i64 3) AL.nil)))))) (BE.lit false))]))
def wrightM_5 : VW := (VW.done ((BE.not (BE.le (IE.var .i64 1) (IE.lit 255))) :: pcrightM_1) (some [(G.b (BE.and (BE.le (IE.lit 1) (IE.var .i64 3)) (BE.and (BE.le (IE.var .i64 3) (IE.lit 5)) (BE.fn 2 (AL.int .i64 (IE.var .i64 1) (AL.int .i64 (IE.var .i64 2) (AL.int .i64 (IE.var .i64 3) AL.nil)))))) (BE.lit false))]))
def wrightM_6 : VW := (VW.done ((BE.not (BE.le (IE.lit 0) (IE.var .i64 1))) :: pcrightM_0) (some [(G.b (BE.and (BE.le (IE.lit 1) (IE.var .i64 3)) (BE.and (BE.le (IE.var .i64 3) (IE.lit 5)) (BE.fn 2 (AL.int .i64 (IE.var .i64 1) (AL.int .i64 (IE.var .i64 2) (AL.int .i64 (IE.var .i64 3) AL.nil)))))) (BE.lit false))]))
def vwrightM : List VW := [wrightM_0, wrightM_1, wrightM_2, wrightM_3, wrightM_4, wrightM_5, wrightM_6]
end
theorem vcrightM_0 : VD TTrightM (st0 cRightM) wrightM_0 := by
  intro ρ kn hp
  have hF : ρ.z.F = hold.Φ := kn.F
  simp only [h_nil, h_cons, d_le, d_eq, d_not, d_var, d_lit, d_cel, d_leq, d_fn, d_and, d_iff, IE.den, LE.den, AL.den, lenV, true_and, and_true, pcrightM_5, pcrightM_4, pcrightM_3, pcrightM_2, pcrightM_1, pcrightM_0, hF, pi1, pi2, pi3, pi4, pl2, pb1, pb2, pb3, pb4, pb5, pb6] at hp
  obtain ⟨p1, p2, p3, p4, p5, p6⟩ := hp
  refine all_cons (show ((decide ((1 : Int) ≤ (ρ.i .i64 3))) && ((decide ((ρ.i .i64 3) ≤ (5 : Int))) && (ρ.z.F.b 2 [.int .i64 (ρ.i .i64 1), .int .i64 (ρ.i .i64 2), .int .i64 (ρ.i .i64 3)]))) = true from ?_) (all_nil)
  all_goals try simp only [hF, pi1, pi2, pi3, pi4, pl2, pb1, pb2, pb3, pb4, pb5, pb6]
  all_goals first | omega | skip
  all_goals
    apply beq_of
    simp only [fits_iff, may_iff, decide_eq_true_eq, Bool.and_eq_true, Bool.not_eq_true', Bool.false_eq_true, true_iff, iff_true, false_iff, iff_false, decide_eq_false_iff_not] at *
    omega
theorem vcrightM_1 : VD TTrightM (st0 cRightM) wrightM_1 := by
  intro ρ kn hp
  exact all_nil
theorem vcrightM_2 : VD TTrightM (st0 cRightM) wrightM_2 := by
  intro ρ kn hp
  exact all_nil
theorem vcrightM_3 : VD TTrightM (st0 cRightM) wrightM_3 := by
  intro ρ kn hp
  have hF : ρ.z.F = hold.Φ := kn.F
  simp only [h_nil, h_cons, d_le, d_eq, d_not, d_var, d_lit, d_cel, d_leq, d_fn, d_and, d_iff, IE.den, LE.den, AL.den, lenV, true_and, and_true, pcrightM_3, pcrightM_2, pcrightM_1, pcrightM_0, hF, pi1, pi2, pi3, pi4, pl2, pb1, pb2, pb3, pb4, pb5, pb6] at hp
  obtain ⟨p1, p2, p3, p4⟩ := hp
  refine all_cons (show ((decide ((1 : Int) ≤ (ρ.i .i64 3))) && ((decide ((ρ.i .i64 3) ≤ (5 : Int))) && (ρ.z.F.b 2 [.int .i64 (ρ.i .i64 1), .int .i64 (ρ.i .i64 2), .int .i64 (ρ.i .i64 3)]))) = false from ?_) (all_nil)
  all_goals try simp only [hF, pi1, pi2, pi3, pi4, pl2, pb1, pb2, pb3, pb4, pb5, pb6]
  all_goals first | omega | skip
  all_goals
    apply beq_of
    simp only [fits_iff, may_iff, decide_eq_true_eq, Bool.and_eq_true, Bool.not_eq_true', Bool.false_eq_true, true_iff, iff_true, false_iff, iff_false, decide_eq_false_iff_not] at *
    omega
theorem vcrightM_4 : VD TTrightM (st0 cRightM) wrightM_4 := by
  intro ρ kn hp
  have hF : ρ.z.F = hold.Φ := kn.F
  simp only [h_nil, h_cons, d_le, d_eq, d_not, d_var, d_lit, d_cel, d_leq, d_fn, d_and, d_iff, IE.den, LE.den, AL.den, lenV, true_and, and_true, pcrightM_2, pcrightM_1, pcrightM_0, hF, pi1, pi2, pi3, pi4, pl2, pb1, pb2, pb3, pb4, pb5, pb6] at hp
  obtain ⟨p1, p2, p3⟩ := hp
  refine all_cons (show ((decide ((1 : Int) ≤ (ρ.i .i64 3))) && ((decide ((ρ.i .i64 3) ≤ (5 : Int))) && (ρ.z.F.b 2 [.int .i64 (ρ.i .i64 1), .int .i64 (ρ.i .i64 2), .int .i64 (ρ.i .i64 3)]))) = false from ?_) (all_nil)
  all_goals try simp only [hF, pi1, pi2, pi3, pi4, pl2, pb1, pb2, pb3, pb4, pb5, pb6]
  all_goals first | omega | skip
  all_goals
    apply beq_of
    simp only [fits_iff, may_iff, decide_eq_true_eq, Bool.and_eq_true, Bool.not_eq_true', Bool.false_eq_true, true_iff, iff_true, false_iff, iff_false, decide_eq_false_iff_not] at *
    omega
theorem vcrightM_5 : VD TTrightM (st0 cRightM) wrightM_5 := by
  intro ρ kn hp
  have hF : ρ.z.F = hold.Φ := kn.F
  simp only [h_nil, h_cons, d_le, d_eq, d_not, d_var, d_lit, d_cel, d_leq, d_fn, d_and, d_iff, IE.den, LE.den, AL.den, lenV, true_and, and_true, pcrightM_1, pcrightM_0, hF, pi1, pi2, pi3, pi4, pl2, pb1, pb2, pb3, pb4, pb5, pb6] at hp
  obtain ⟨p1, p2⟩ := hp
  refine all_cons (show ((decide ((1 : Int) ≤ (ρ.i .i64 3))) && ((decide ((ρ.i .i64 3) ≤ (5 : Int))) && (ρ.z.F.b 2 [.int .i64 (ρ.i .i64 1), .int .i64 (ρ.i .i64 2), .int .i64 (ρ.i .i64 3)]))) = false from ?_) (all_nil)
  all_goals try simp only [hF, pi1, pi2, pi3, pi4, pl2, pb1, pb2, pb3, pb4, pb5, pb6]
  all_goals first | omega | skip
  all_goals
    apply beq_of
    simp only [fits_iff, may_iff, decide_eq_true_eq, Bool.and_eq_true, Bool.not_eq_true', Bool.false_eq_true, true_iff, iff_true, false_iff, iff_false, decide_eq_false_iff_not] at *
    omega
theorem vcrightM_6 : VD TTrightM (st0 cRightM) wrightM_6 := by
  intro ρ kn hp
  have hF : ρ.z.F = hold.Φ := kn.F
  simp only [h_nil, h_cons, d_le, d_eq, d_not, d_var, d_lit, d_cel, d_leq, d_fn, d_and, d_iff, IE.den, LE.den, AL.den, lenV, true_and, and_true, pcrightM_0, hF, pi1, pi2, pi3, pi4, pl2, pb1, pb2, pb3, pb4, pb5, pb6] at hp
  have p1 := hp
  refine all_cons (show ((decide ((1 : Int) ≤ (ρ.i .i64 3))) && ((decide ((ρ.i .i64 3) ≤ (5 : Int))) && (ρ.z.F.b 2 [.int .i64 (ρ.i .i64 1), .int .i64 (ρ.i .i64 2), .int .i64 (ρ.i .i64 3)]))) = false from ?_) (all_nil)
  all_goals try simp only [hF, pi1, pi2, pi3, pi4, pl2, pb1, pb2, pb3, pb4, pb5, pb6]
  all_goals first | omega | skip
  all_goals
    apply beq_of
    simp only [fits_iff, may_iff, decide_eq_true_eq, Bool.and_eq_true, Bool.not_eq_true', Bool.false_eq_true, true_iff, iff_true, false_iff, iff_false, decide_eq_false_iff_not] at *
    omega
theorem told_rightM : Sx.Told hold.Φ cRightM := told_vw (cs := [cRight1]) (all_cons told_right1 (all_nil)) 4000 vwrightM (by kernel_rfl) (by kernel_rfl) (by kernel_rfl) (post_nil rfl) (by kernel_rfl) (by kernel_rfl) (all_cons vcrightM_0 (all_cons vcrightM_1 (all_cons vcrightM_2 (all_cons vcrightM_3 (all_cons vcrightM_4 (all_cons vcrightM_5 (all_cons vcrightM_6 (all_nil))))))))
theorem told_rf0 : Sx.Told hold.Φ cRF0 := told_auto (cs := []) (all_nil) 600 (by kernel_rfl) (by kernel_rfl) (by kernel_rfl) (post_nil rfl) (by kernel_rfl) (by kernel_rfl)
noncomputable section
abbrev TTat : Tab := T hold.Φ cAt.roms []
def tat1 : Cfg := { top := ⟨79, over (opqS 10000 22) [(0, (SV.rom 0 (IE.lit 0) (IE.len (LE.rom 0)) none)), (1, (SV.func (Go.Fn.func 102) [] [(SV.ptr 1 0)])), (8, (SV.rom 0 (IE.lit 0) (IE.len (LE.rom 0)) none)), (9, (SV.int .i64 (IE.len (LE.rom 0)))), (10, (SV.int .i64 (IE.var .i64 1000)))], ogt (loopTodo (bodyOf (T hold.Φ [] []) 79) 0), [], false, none⟩, rest := [⟨77, over (opqS 30000 12) [], ogt (callTodo (bodyOf (T hold.Φ [] []) 77) 1 [3, 4, 5, 6, 7]), [], false, none⟩], heap := [(1, .cells [(SV.int .i64 (IE.var .i64 1))] 3)], next := 2, pc := .lit true :: ([] ++ [(BE.le (IE.len (LE.rom 0)) (IE.lit 1000000)), (BE.le (IE.lit 0) (IE.var .i64 1000)), (BE.le (IE.var .i64 1000) (IE.len (LE.rom 0)))]) }
def tmat : List (Nat × Cfg) := [(0, startF 77 cAt.pat (.lit true :: cAt.pre)), (1, tat1)]
def selat : Sel := [(79, 1, 1, 1)]
def wat0_0 : VW := (VW.cut 1 [(BE.lit true), (BE.le (IE.len (LE.rom 0)) (IE.lit 1000000))] (Sx.Sub.mk [(.i64, (1000, (IE.lit 0)))] [] [] [] [] []))
def vwat0 : List VW := [wat0_0]
def pcat1_0 : List BE := [(BE.lit true), (BE.le (IE.len (LE.rom 0)) (IE.lit 1000000)), (BE.le (IE.lit 0) (IE.var .i64 1000)), (BE.le (IE.var .i64 1000) (IE.len (LE.rom 0)))]
def pcat1_1 : List BE := ((BE.not (BE.le (IE.len (LE.rom 0)) (IE.var .i64 1000))) :: pcat1_0)
def wat1_0 : VW := (VW.done ((BE.le (IE.len (LE.rom 0)) (IE.var .i64 1000)) :: pcat1_0) (some [(G.i (IE.fn .i64 2 (AL.lst (LE.rom 0) (AL.int .i64 (IE.var .i64 1) AL.nil))) (IE.len (LE.rom 0))), (G.b (BE.not (BE.le (IE.len (LE.rom 0)) (IE.fn .i64 2 (AL.lst (LE.rom 0) (AL.int .i64 (IE.var .i64 1) AL.nil))))) (BE.lit false))]))
def wat1_1 : VW := (VW.done ((BE.eq (IE.cel .i64 (LE.rom 0) (IE.var .i64 1000) 0) (IE.var .i64 1)) :: pcat1_1) (some [(G.i (IE.fn .i64 2 (AL.lst (LE.rom 0) (AL.int .i64 (IE.var .i64 1) AL.nil))) (IE.var .i64 1000)), (G.b (BE.not (BE.le (IE.len (LE.rom 0)) (IE.fn .i64 2 (AL.lst (LE.rom 0) (AL.int .i64 (IE.var .i64 1) AL.nil))))) (BE.lit true))]))
def wat1_2 : VW := (VW.cut 1 ((BE.not (BE.eq (IE.cel .i64 (LE.rom 0) (IE.var .i64 1000) 0) (IE.var .i64 1))) :: pcat1_1) (Sx.Sub.mk [(.i64, (1000, (IE.add (IE.var .i64 1000) (IE.lit 1))))] [] [] [] [] []))
def vwat1 : List VW := [wat1_0, wat1_1, wat1_2]
def vwat : Nat → List VW
  | 0 => vwat0
  | 1 => vwat1
  | _ => []
end
def invat : Nat → Lt → Prop
  | 1, l => findN (l.z.rl 0) (l.i .i64 1) (l.i .i64 1000).toNat = (l.i .i64 1000).toNat
  | _, _ => True
def msat : Nat → Lt → Nat
  | 0, l => (l.z.rl 0).length + 1
  | 1, l => (l.z.rl 0).length - (l.i .i64 1000).toNat
  | _, _ => 0
theorem vcat0_0 : VC TTat invat msat 0 (startF 77 cAt.pat (.lit true :: cAt.pre)) wat0_0 := by
  intro ρ kn hi hp
  have hF : ρ.z.F = hold.Φ := kn.F
  simp only [h_nil, h_cons, d_le, d_eq, d_not, d_var, d_lit, d_cel, d_leq, d_fn, d_and, d_iff, IE.den, LE.den, AL.den, lenV, true_and, and_true, hF, pi1, pi2, pi3, pi4, pl2, pb1, pb2, pb3, pb4, pb5, pb6] at hp
  have p1 := hp
  refine (show (findN (ρ.z.rl 0) (ρ.i .i64 1) (0 : Int).toNat = (0 : Int).toNat) ∧ (((ρ.z.rl 0).length - (0 : Int).toNat : Nat) < (ρ.z.rl 0).length + 1) from ?_)
  exact ⟨rfl, by omega⟩
def ivat1 (ρ : Rho) : Prop := findN (ρ.z.rl 0) (ρ.i .i64 1) (ρ.i .i64 1000).toNat = (ρ.i .i64 1000).toNat
theorem vcat1_0 : VC TTat invat msat 1 tat1 wat1_0 := by
  intro ρ kn hi hp
  have hi : ivat1 ρ := hi
  unfold ivat1 at hi
  have hF : ρ.z.F = hold.Φ := kn.F
  simp only [h_nil, h_cons, d_le, d_eq, d_not, d_var, d_lit, d_cel, d_leq, d_fn, d_and, d_iff, IE.den, LE.den, AL.den, lenV, true_and, and_true, pcat1_0, hF, pi1, pi2, pi3, pi4, pl2, pb1, pb2, pb3, pb4, pb5, pb6] at hp
  obtain ⟨p1, p2, p3, p4⟩ := hp
  refine all_cons (show (clampK .i64 (ρ.z.F.i 2 [.lst (ρ.z.rl 0), .int .i64 (ρ.i .i64 1)])) = (((ρ.z.rl 0).length : Nat) : Int) from ?_) (all_cons (show (!(decide ((((ρ.z.rl 0).length : Nat) : Int) ≤ (clampK .i64 (ρ.z.F.i 2 [.lst (ρ.z.rl 0), .int .i64 (ρ.i .i64 1)]))))) = false from ?_) (all_nil))
  all_goals try simp only [hF, pi1, pi2, pi3, pi4, pl2, pb1, pb2, pb3, pb4, pb5, pb6]
  all_goals
    have b1 := first_le (fun k => decide (atI (ρ.z.rl 0) k 0 = ρ.i .i64 1)) (ρ.z.rl 0).length
    have b2 : (findN (ρ.z.rl 0) (ρ.i .i64 1) (ρ.z.rl 0).length : Nat) ≤ (ρ.z.rl 0).length := b1
    have c : clampK .i64 ((findN (ρ.z.rl 0) (ρ.i .i64 1) (ρ.z.rl 0).length : Nat) : Int) = ((findN (ρ.z.rl 0) (ρ.i .i64 1) (ρ.z.rl 0).length : Nat) : Int) := clampS (by omega) (by omega)
    simp only [c] at *
    first
      | (have e := find_hit (by omega) (by omega) hi (by assumption)
         first | omega | (apply beq_of; simp only [Bool.not_eq_true', decide_eq_false_iff_not, Bool.false_eq_true, iff_true, true_iff, iff_false, false_iff]; omega) | skip)
      | (have e := find_miss (by omega) (by omega) (by omega) hi
         first | omega | (apply beq_of; simp only [Bool.not_eq_true', decide_eq_false_iff_not, Bool.false_eq_true, iff_true, true_iff, iff_false, false_iff]; omega) | skip)
theorem vcat1_1 : VC TTat invat msat 1 tat1 wat1_1 := by
  intro ρ kn hi hp
  have hi : ivat1 ρ := hi
  unfold ivat1 at hi
  have hF : ρ.z.F = hold.Φ := kn.F
  simp only [h_nil, h_cons, d_le, d_eq, d_not, d_var, d_lit, d_cel, d_leq, d_fn, d_and, d_iff, IE.den, LE.den, AL.den, lenV, true_and, and_true, pcat1_1, pcat1_0, hF, pi1, pi2, pi3, pi4, pl2, pb1, pb2, pb3, pb4, pb5, pb6] at hp
  obtain ⟨p1, p2, p3, p4, p5⟩ := hp
  refine all_cons (show (clampK .i64 (ρ.z.F.i 2 [.lst (ρ.z.rl 0), .int .i64 (ρ.i .i64 1)])) = (ρ.i .i64 1000) from ?_) (all_cons (show (!(decide ((((ρ.z.rl 0).length : Nat) : Int) ≤ (clampK .i64 (ρ.z.F.i 2 [.lst (ρ.z.rl 0), .int .i64 (ρ.i .i64 1)]))))) = true from ?_) (all_nil))
  all_goals try simp only [hF, pi1, pi2, pi3, pi4, pl2, pb1, pb2, pb3, pb4, pb5, pb6]
  all_goals
    have b1 := first_le (fun k => decide (atI (ρ.z.rl 0) k 0 = ρ.i .i64 1)) (ρ.z.rl 0).length
    have b2 : (findN (ρ.z.rl 0) (ρ.i .i64 1) (ρ.z.rl 0).length : Nat) ≤ (ρ.z.rl 0).length := b1
    have c : clampK .i64 ((findN (ρ.z.rl 0) (ρ.i .i64 1) (ρ.z.rl 0).length : Nat) : Int) = ((findN (ρ.z.rl 0) (ρ.i .i64 1) (ρ.z.rl 0).length : Nat) : Int) := clampS (by omega) (by omega)
    simp only [c] at *
    first
      | (have e := find_hit (by omega) (by omega) hi (by assumption)
         first | omega | (apply beq_of; simp only [Bool.not_eq_true', decide_eq_false_iff_not, Bool.false_eq_true, iff_true, true_iff, iff_false, false_iff]; omega) | skip)
      | (have e := find_miss (by omega) (by omega) (by omega) hi
         first | omega | (apply beq_of; simp only [Bool.not_eq_true', decide_eq_false_iff_not, Bool.false_eq_true, iff_true, true_iff, iff_false, false_iff]; omega) | skip)
theorem vcat1_2 : VC TTat invat msat 1 tat1 wat1_2 := by
  intro ρ kn hi hp
  have hi : ivat1 ρ := hi
  unfold ivat1 at hi
  have hF : ρ.z.F = hold.Φ := kn.F
  simp only [h_nil, h_cons, d_le, d_eq, d_not, d_var, d_lit, d_cel, d_leq, d_fn, d_and, d_iff, IE.den, LE.den, AL.den, lenV, true_and, and_true, pcat1_1, pcat1_0, hF, pi1, pi2, pi3, pi4, pl2, pb1, pb2, pb3, pb4, pb5, pb6] at hp
  obtain ⟨p1, p2, p3, p4, p5⟩ := hp
  refine (show (findN (ρ.z.rl 0) (ρ.i .i64 1) ((ρ.i .i64 1000) + (1 : Int)).toNat = ((ρ.i .i64 1000) + (1 : Int)).toNat) ∧ (((ρ.z.rl 0).length - ((ρ.i .i64 1000) + (1 : Int)).toNat : Nat) < (ρ.z.rl 0).length - (ρ.i .i64 1000).toNat) from ?_)
  exact ⟨find_go (by omega) hi (by assumption), by omega⟩
theorem vcsat0 : ∀ v ∈ vwat 0, VC TTat invat msat 0 (startF 77 cAt.pat (.lit true :: cAt.pre)) v := all_cons vcat0_0 (all_nil)
theorem okat0 : cfgOk (startF 77 cAt.pat (.lit true :: cAt.pre)) = true := by kernel_rfl
theorem sgat0 : segL cAt.roms cAt (seg TTat selat 600 tmat (startF 77 cAt.pat (.lit true :: cAt.pre))) = (true, codesR tmat (views (seg TTat selat 600 tmat (startF 77 cAt.pat (.lit true :: cAt.pre)))), vwat 0) := by kernel_rfl
theorem vcsat1 : ∀ v ∈ vwat 1, VC TTat invat msat 1 tat1 v := all_cons vcat1_0 (all_cons vcat1_1 (all_cons vcat1_2 (all_nil)))
theorem okat1 : cfgOk tat1 = true := by kernel_rfl
theorem sgat1 : segL cAt.roms cAt (seg TTat selat 600 tmat tat1) = (true, codesR tmat (views (seg TTat selat 600 tmat tat1)), vwat 1) := by kernel_rfl
theorem lnat0 : ∀ ρ, Known TTat (startF 77 cAt.pat (.lit true :: cAt.pre)) ρ → invat 0 ρ.lt → Holds ρ (leanOf (Cfg.pc (startF 77 cAt.pat (.lit true :: cAt.pre)))) := by
  intro ρ _ _
  exact (show Holds ρ [] from fun p hp => by cases hp)
theorem lnat1 : ∀ ρ, Known TTat tat1 ρ → invat 1 ρ.lt → Holds ρ (leanOf (Cfg.pc tat1)) := by
  intro ρ _ _
  exact (show Holds ρ [] from fun p hp => by cases hp)
theorem told_at : Sx.Told hold.Φ cAt := by
  refine told_of (cs := []) (all_nil) (sel := selat) 600 tmat invat msat vwat 0 (pc0 := (.lit true :: cAt.pre)) (by kernel_rfl) (by kernel_rfl) (by kernel_rfl) post_at ?_ ?_ ?_ rfl (fun ρ _ h => h.cons (p := .lit true) (by simp only [BE.den])) (fun _ _ _ _ => trivial) ?_
  · intro k C h
    have := lk_mem h
    simp only [tmat, List.mem_cons, Prod.mk.injEq, List.not_mem_nil, or_false] at this
    rcases this with ⟨rfl, rfl⟩ | ⟨rfl, rfl⟩
    · exact okat0
    · exact okat1
  · intro k C h
    have := lk_mem h
    simp only [tmat, List.mem_cons, Prod.mk.injEq, List.not_mem_nil, or_false] at this
    rcases this with ⟨rfl, rfl⟩ | ⟨rfl, rfl⟩
    · exact sgat0
    · exact sgat1
  · intro k C h
    have := lk_mem h
    simp only [tmat, List.mem_cons, Prod.mk.injEq, List.not_mem_nil, or_false] at this
    rcases this with ⟨rfl, rfl⟩ | ⟨rfl, rfl⟩
    · exact vcsat0
    · exact vcsat1
  · intro k C h
    have := lk_mem h
    simp only [tmat, List.mem_cons, Prod.mk.injEq, List.not_mem_nil, or_false] at this
    rcases this with ⟨rfl, rfl⟩ | ⟨rfl, rfl⟩
    · exact lnat0
    · exact lnat1
noncomputable section
abbrev TTrfin : Tab := T hold.Φ cRFin.roms []
def trfin1 : Cfg := { top := ⟨52, over (opqS 10000 20) [(0, (SV.rom 0 (IE.lit 0) (IE.len (LE.rom 0)) none)), (1, (SV.int .i64 (IE.var .i64 1))), (5, (SV.int .i64 (IE.var .i64 1000)))], ogt (loopTodo (bodyOf (T hold.Φ [] []) 52) 0), [], false, none⟩, rest := [], heap := [], next := 1, pc := .lit true :: ([] ++ [(BE.not (BE.le (IE.len (LE.rom 0)) (IE.fn .i64 2 (AL.lst (LE.rom 0) (AL.int .i64 (IE.var .i64 1) AL.nil))))), (BE.le (IE.len (LE.rom 0)) (IE.lit 1000000)), (BE.le (IE.lit 0) (IE.var .i64 1000)), (BE.le (IE.var .i64 1000) (IE.len (LE.rom 0)))]) }
def tmrfin : List (Nat × Cfg) := [(0, startF 52 cRFin.pat (.lit true :: cRFin.pre)), (1, trfin1)]
def selrfin : Sel := [(52, 1, 0, 1)]
def wrfin0_0 : VW := (VW.cut 1 [(BE.lit true), (BE.le (IE.len (LE.rom 0)) (IE.lit 1000000)), (BE.not (BE.le (IE.len (LE.rom 0)) (IE.fn .i64 2 (AL.lst (LE.rom 0) (AL.int .i64 (IE.var .i64 1) AL.nil)))))] (Sx.Sub.mk [(.i64, (1000, (IE.lit 0)))] [] [] [] [] []))
def vwrfin0 : List VW := [wrfin0_0]
def pcrfin1_0 : List BE := [(BE.lit true), (BE.not (BE.le (IE.len (LE.rom 0)) (IE.fn .i64 2 (AL.lst (LE.rom 0) (AL.int .i64 (IE.var .i64 1) AL.nil))))), (BE.le (IE.len (LE.rom 0)) (IE.lit 1000000)), (BE.le (IE.lit 0) (IE.var .i64 1000)), (BE.le (IE.var .i64 1000) (IE.len (LE.rom 0)))]
def pcrfin1_1 : List BE := ((BE.not (BE.le (IE.len (LE.rom 0)) (IE.var .i64 1000))) :: pcrfin1_0)
def wrfin1_0 : VW := (VW.done ((BE.le (IE.len (LE.rom 0)) (IE.var .i64 1000)) :: pcrfin1_0) (some [(G.i (IE.fn .i64 2 (AL.lst (LE.rom 0) (AL.int .i64 (IE.var .i64 1) AL.nil))) (IE.lit (-1)))]))
def wrfin1_1 : VW := (VW.done ((BE.eq (IE.cel .i64 (LE.rom 0) (IE.var .i64 1000) 0) (IE.var .i64 1)) :: pcrfin1_1) (some [(G.i (IE.fn .i64 2 (AL.lst (LE.rom 0) (AL.int .i64 (IE.var .i64 1) AL.nil))) (IE.var .i64 1000))]))
def wrfin1_2 : VW := (VW.cut 1 ((BE.not (BE.eq (IE.cel .i64 (LE.rom 0) (IE.var .i64 1000) 0) (IE.var .i64 1))) :: pcrfin1_1) (Sx.Sub.mk [(.i64, (1000, (IE.add (IE.var .i64 1000) (IE.lit 1))))] [] [] [] [] []))
def vwrfin1 : List VW := [wrfin1_0, wrfin1_1, wrfin1_2]
def vwrfin : Nat → List VW
  | 0 => vwrfin0
  | 1 => vwrfin1
  | _ => []
end
def invrfin : Nat → Lt → Prop
  | 1, l => findN (l.z.rl 0) (l.i .i64 1) (l.i .i64 1000).toNat = (l.i .i64 1000).toNat
  | _, _ => True
def msrfin : Nat → Lt → Nat
  | 0, l => (l.z.rl 0).length + 1
  | 1, l => (l.z.rl 0).length - (l.i .i64 1000).toNat
  | _, _ => 0
theorem vcrfin0_0 : VC TTrfin invrfin msrfin 0 (startF 52 cRFin.pat (.lit true :: cRFin.pre)) wrfin0_0 := by
  intro ρ kn hi hp
  have hF : ρ.z.F = hold.Φ := kn.F
  simp only [h_nil, h_cons, d_le, d_eq, d_not, d_var, d_lit, d_cel, d_leq, d_fn, d_and, d_iff, IE.den, LE.den, AL.den, lenV, true_and, and_true, hF, pi1, pi2, pi3, pi4, pl2, pb1, pb2, pb3, pb4, pb5, pb6] at hp
  obtain ⟨p1, p2⟩ := hp
  refine (show (findN (ρ.z.rl 0) (ρ.i .i64 1) (0 : Int).toNat = (0 : Int).toNat) ∧ (((ρ.z.rl 0).length - (0 : Int).toNat : Nat) < (ρ.z.rl 0).length + 1) from ?_)
  exact ⟨rfl, by omega⟩
def ivrfin1 (ρ : Rho) : Prop := findN (ρ.z.rl 0) (ρ.i .i64 1) (ρ.i .i64 1000).toNat = (ρ.i .i64 1000).toNat
theorem vcrfin1_0 : VC TTrfin invrfin msrfin 1 trfin1 wrfin1_0 := by
  intro ρ kn hi hp
  have hi : ivrfin1 ρ := hi
  unfold ivrfin1 at hi
  have hF : ρ.z.F = hold.Φ := kn.F
  simp only [h_nil, h_cons, d_le, d_eq, d_not, d_var, d_lit, d_cel, d_leq, d_fn, d_and, d_iff, IE.den, LE.den, AL.den, lenV, true_and, and_true, pcrfin1_0, hF, pi1, pi2, pi3, pi4, pl2, pb1, pb2, pb3, pb4, pb5, pb6] at hp
  obtain ⟨p1, p2, p3, p4, p5⟩ := hp
  refine all_cons (show (clampK .i64 (ρ.z.F.i 2 [.lst (ρ.z.rl 0), .int .i64 (ρ.i .i64 1)])) = (-1 : Int) from ?_) (all_nil)
  all_goals try simp only [hF, pi1, pi2, pi3, pi4, pl2, pb1, pb2, pb3, pb4, pb5, pb6]
  all_goals
    have b1 := first_le (fun k => decide (atI (ρ.z.rl 0) k 0 = ρ.i .i64 1)) (ρ.z.rl 0).length
    have b2 : (findN (ρ.z.rl 0) (ρ.i .i64 1) (ρ.z.rl 0).length : Nat) ≤ (ρ.z.rl 0).length := b1
    have c : clampK .i64 ((findN (ρ.z.rl 0) (ρ.i .i64 1) (ρ.z.rl 0).length : Nat) : Int) = ((findN (ρ.z.rl 0) (ρ.i .i64 1) (ρ.z.rl 0).length : Nat) : Int) := clampS (by omega) (by omega)
    simp only [c] at *
    first
      | (have e := find_hit (by omega) (by omega) hi (by assumption)
         first | omega | (apply beq_of; simp only [Bool.not_eq_true', decide_eq_false_iff_not, Bool.false_eq_true, iff_true, true_iff, iff_false, false_iff]; omega) | skip)
      | (have e := find_miss (by omega) (by omega) (by omega) hi
         first | omega | (apply beq_of; simp only [Bool.not_eq_true', decide_eq_false_iff_not, Bool.false_eq_true, iff_true, true_iff, iff_false, false_iff]; omega) | skip)
theorem vcrfin1_1 : VC TTrfin invrfin msrfin 1 trfin1 wrfin1_1 := by
  intro ρ kn hi hp
  have hi : ivrfin1 ρ := hi
  unfold ivrfin1 at hi
  have hF : ρ.z.F = hold.Φ := kn.F
  simp only [h_nil, h_cons, d_le, d_eq, d_not, d_var, d_lit, d_cel, d_leq, d_fn, d_and, d_iff, IE.den, LE.den, AL.den, lenV, true_and, and_true, pcrfin1_1, pcrfin1_0, hF, pi1, pi2, pi3, pi4, pl2, pb1, pb2, pb3, pb4, pb5, pb6] at hp
  obtain ⟨p1, p2, p3, p4, p5, p6⟩ := hp
  refine all_cons (show (clampK .i64 (ρ.z.F.i 2 [.lst (ρ.z.rl 0), .int .i64 (ρ.i .i64 1)])) = (ρ.i .i64 1000) from ?_) (all_nil)
  all_goals try simp only [hF, pi1, pi2, pi3, pi4, pl2, pb1, pb2, pb3, pb4, pb5, pb6]
  all_goals
    have b1 := first_le (fun k => decide (atI (ρ.z.rl 0) k 0 = ρ.i .i64 1)) (ρ.z.rl 0).length
    have b2 : (findN (ρ.z.rl 0) (ρ.i .i64 1) (ρ.z.rl 0).length : Nat) ≤ (ρ.z.rl 0).length := b1
    have c : clampK .i64 ((findN (ρ.z.rl 0) (ρ.i .i64 1) (ρ.z.rl 0).length : Nat) : Int) = ((findN (ρ.z.rl 0) (ρ.i .i64 1) (ρ.z.rl 0).length : Nat) : Int) := clampS (by omega) (by omega)
    simp only [c] at *
    first
      | (have e := find_hit (by omega) (by omega) hi (by assumption)
         first | omega | (apply beq_of; simp only [Bool.not_eq_true', decide_eq_false_iff_not, Bool.false_eq_true, iff_true, true_iff, iff_false, false_iff]; omega) | skip)
      | (have e := find_miss (by omega) (by omega) (by omega) hi
         first | omega | (apply beq_of; simp only [Bool.not_eq_true', decide_eq_false_iff_not, Bool.false_eq_true, iff_true, true_iff, iff_false, false_iff]; omega) | skip)
theorem vcrfin1_2 : VC TTrfin invrfin msrfin 1 trfin1 wrfin1_2 := by
  intro ρ kn hi hp
  have hi : ivrfin1 ρ := hi
  unfold ivrfin1 at hi
  have hF : ρ.z.F = hold.Φ := kn.F
  simp only [h_nil, h_cons, d_le, d_eq, d_not, d_var, d_lit, d_cel, d_leq, d_fn, d_and, d_iff, IE.den, LE.den, AL.den, lenV, true_and, and_true, pcrfin1_1, pcrfin1_0, hF, pi1, pi2, pi3, pi4, pl2, pb1, pb2, pb3, pb4, pb5, pb6] at hp
  obtain ⟨p1, p2, p3, p4, p5, p6⟩ := hp
  refine (show (findN (ρ.z.rl 0) (ρ.i .i64 1) ((ρ.i .i64 1000) + (1 : Int)).toNat = ((ρ.i .i64 1000) + (1 : Int)).toNat) ∧ (((ρ.z.rl 0).length - ((ρ.i .i64 1000) + (1 : Int)).toNat : Nat) < (ρ.z.rl 0).length - (ρ.i .i64 1000).toNat) from ?_)
  exact ⟨find_go (by omega) hi (by assumption), by omega⟩
theorem vcsrfin0 : ∀ v ∈ vwrfin 0, VC TTrfin invrfin msrfin 0 (startF 52 cRFin.pat (.lit true :: cRFin.pre)) v := all_cons vcrfin0_0 (all_nil)
theorem okrfin0 : cfgOk (startF 52 cRFin.pat (.lit true :: cRFin.pre)) = true := by kernel_rfl
theorem sgrfin0 : segL cRFin.roms cRFin (seg TTrfin selrfin 600 tmrfin (startF 52 cRFin.pat (.lit true :: cRFin.pre))) = (true, codesR tmrfin (views (seg TTrfin selrfin 600 tmrfin (startF 52 cRFin.pat (.lit true :: cRFin.pre)))), vwrfin 0) := by kernel_rfl
theorem vcsrfin1 : ∀ v ∈ vwrfin 1, VC TTrfin invrfin msrfin 1 trfin1 v := all_cons vcrfin1_0 (all_cons vcrfin1_1 (all_cons vcrfin1_2 (all_nil)))
theorem okrfin1 : cfgOk trfin1 = true := by kernel_rfl
theorem sgrfin1 : segL cRFin.roms cRFin (seg TTrfin selrfin 600 tmrfin trfin1) = (true, codesR tmrfin (views (seg TTrfin selrfin 600 tmrfin trfin1)), vwrfin 1) := by kernel_rfl
theorem lnrfin0 : ∀ ρ, Known TTrfin (startF 52 cRFin.pat (.lit true :: cRFin.pre)) ρ → invrfin 0 ρ.lt → Holds ρ (leanOf (Cfg.pc (startF 52 cRFin.pat (.lit true :: cRFin.pre)))) := by
  intro ρ _ _
  exact (show Holds ρ [] from fun p hp => by cases hp)
theorem lnrfin1 : ∀ ρ, Known TTrfin trfin1 ρ → invrfin 1 ρ.lt → Holds ρ (leanOf (Cfg.pc trfin1)) := by
  intro ρ _ _
  exact (show Holds ρ [] from fun p hp => by cases hp)
theorem told_rfin : Sx.Told hold.Φ cRFin := by
  refine told_of (cs := []) (all_nil) (sel := selrfin) 600 tmrfin invrfin msrfin vwrfin 0 (pc0 := (.lit true :: cRFin.pre)) (by kernel_rfl) (by kernel_rfl) (by kernel_rfl) post_in ?_ ?_ ?_ rfl (fun ρ _ h => h.cons (p := .lit true) (by simp only [BE.den])) (fun _ _ _ _ => trivial) ?_
  · intro k C h
    have := lk_mem h
    simp only [tmrfin, List.mem_cons, Prod.mk.injEq, List.not_mem_nil, or_false] at this
    rcases this with ⟨rfl, rfl⟩ | ⟨rfl, rfl⟩
    · exact okrfin0
    · exact okrfin1
  · intro k C h
    have := lk_mem h
    simp only [tmrfin, List.mem_cons, Prod.mk.injEq, List.not_mem_nil, or_false] at this
    rcases this with ⟨rfl, rfl⟩ | ⟨rfl, rfl⟩
    · exact sgrfin0
    · exact sgrfin1
  · intro k C h
    have := lk_mem h
    simp only [tmrfin, List.mem_cons, Prod.mk.injEq, List.not_mem_nil, or_false] at this
    rcases this with ⟨rfl, rfl⟩ | ⟨rfl, rfl⟩
    · exact vcsrfin0
    · exact vcsrfin1
  · intro k C h
    have := lk_mem h
    simp only [tmrfin, List.mem_cons, Prod.mk.injEq, List.not_mem_nil, or_false] at this
    rcases this with ⟨rfl, rfl⟩ | ⟨rfl, rfl⟩
    · exact lnrfin0
    · exact lnrfin1
noncomputable section
abbrev TTrfout : Tab := T hold.Φ cRFout.roms []
def trfout1 : Cfg := { top := ⟨52, over (opqS 10000 20) [(0, (SV.rom 0 (IE.lit 0) (IE.len (LE.rom 0)) none)), (1, (SV.int .i64 (IE.var .i64 1))), (5, (SV.int .i64 (IE.var .i64 1000)))], ogt (loopTodo (bodyOf (T hold.Φ [] []) 52) 0), [], false, none⟩, rest := [], heap := [], next := 1, pc := .lit true :: ([] ++ [(BE.le (IE.len (LE.rom 0)) (IE.fn .i64 2 (AL.lst (LE.rom 0) (AL.int .i64 (IE.var .i64 1) AL.nil)))), (BE.le (IE.len (LE.rom 0)) (IE.lit 1000000)), (BE.le (IE.lit 0) (IE.var .i64 1000)), (BE.le (IE.var .i64 1000) (IE.len (LE.rom 0)))]) }
def tmrfout : List (Nat × Cfg) := [(0, startF 52 cRFout.pat (.lit true :: cRFout.pre)), (1, trfout1)]
def selrfout : Sel := [(52, 1, 0, 1)]
def wrfout0_0 : VW := (VW.cut 1 [(BE.lit true), (BE.le (IE.len (LE.rom 0)) (IE.lit 1000000)), (BE.le (IE.len (LE.rom 0)) (IE.fn .i64 2 (AL.lst (LE.rom 0) (AL.int .i64 (IE.var .i64 1) AL.nil))))] (Sx.Sub.mk [(.i64, (1000, (IE.lit 0)))] [] [] [] [] []))
def vwrfout0 : List VW := [wrfout0_0]
def pcrfout1_0 : List BE := [(BE.lit true), (BE.le (IE.len (LE.rom 0)) (IE.fn .i64 2 (AL.lst (LE.rom 0) (AL.int .i64 (IE.var .i64 1) AL.nil)))), (BE.le (IE.len (LE.rom 0)) (IE.lit 1000000)), (BE.le (IE.lit 0) (IE.var .i64 1000)), (BE.le (IE.var .i64 1000) (IE.len (LE.rom 0)))]
def pcrfout1_1 : List BE := ((BE.not (BE.le (IE.len (LE.rom 0)) (IE.var .i64 1000))) :: pcrfout1_0)
def wrfout1_0 : VW := (VW.done ((BE.le (IE.len (LE.rom 0)) (IE.var .i64 1000)) :: pcrfout1_0) (some []))
def wrfout1_1 : VW := (VW.done ((BE.eq (IE.cel .i64 (LE.rom 0) (IE.var .i64 1000) 0) (IE.var .i64 1)) :: pcrfout1_1) (some [(G.i (IE.lit (-1)) (IE.var .i64 1000))]))
def wrfout1_2 : VW := (VW.cut 1 ((BE.not (BE.eq (IE.cel .i64 (LE.rom 0) (IE.var .i64 1000) 0) (IE.var .i64 1))) :: pcrfout1_1) (Sx.Sub.mk [(.i64, (1000, (IE.add (IE.var .i64 1000) (IE.lit 1))))] [] [] [] [] []))
def vwrfout1 : List VW := [wrfout1_0, wrfout1_1, wrfout1_2]
def vwrfout : Nat → List VW
  | 0 => vwrfout0
  | 1 => vwrfout1
  | _ => []
end
def invrfout : Nat → Lt → Prop
  | 1, l => findN (l.z.rl 0) (l.i .i64 1) (l.i .i64 1000).toNat = (l.i .i64 1000).toNat
  | _, _ => True
def msrfout : Nat → Lt → Nat
  | 0, l => (l.z.rl 0).length + 1
  | 1, l => (l.z.rl 0).length - (l.i .i64 1000).toNat
  | _, _ => 0
theorem vcrfout0_0 : VC TTrfout invrfout msrfout 0 (startF 52 cRFout.pat (.lit true :: cRFout.pre)) wrfout0_0 := by
  intro ρ kn hi hp
  have hF : ρ.z.F = hold.Φ := kn.F
  simp only [h_nil, h_cons, d_le, d_eq, d_not, d_var, d_lit, d_cel, d_leq, d_fn, d_and, d_iff, IE.den, LE.den, AL.den, lenV, true_and, and_true, hF, pi1, pi2, pi3, pi4, pl2, pb1, pb2, pb3, pb4, pb5, pb6] at hp
  obtain ⟨p1, p2⟩ := hp
  refine (show (findN (ρ.z.rl 0) (ρ.i .i64 1) (0 : Int).toNat = (0 : Int).toNat) ∧ (((ρ.z.rl 0).length - (0 : Int).toNat : Nat) < (ρ.z.rl 0).length + 1) from ?_)
  exact ⟨rfl, by omega⟩
def ivrfout1 (ρ : Rho) : Prop := findN (ρ.z.rl 0) (ρ.i .i64 1) (ρ.i .i64 1000).toNat = (ρ.i .i64 1000).toNat
theorem vcrfout1_1 : VC TTrfout invrfout msrfout 1 trfout1 wrfout1_1 := by
  intro ρ kn hi hp
  have hi : ivrfout1 ρ := hi
  unfold ivrfout1 at hi
  have hF : ρ.z.F = hold.Φ := kn.F
  simp only [h_nil, h_cons, d_le, d_eq, d_not, d_var, d_lit, d_cel, d_leq, d_fn, d_and, d_iff, IE.den, LE.den, AL.den, lenV, true_and, and_true, pcrfout1_1, pcrfout1_0, hF, pi1, pi2, pi3, pi4, pl2, pb1, pb2, pb3, pb4, pb5, pb6] at hp
  obtain ⟨p1, p2, p3, p4, p5, p6⟩ := hp
  refine all_cons (show (-1 : Int) = (ρ.i .i64 1000) from ?_) (all_nil)
  all_goals try simp only [hF, pi1, pi2, pi3, pi4, pl2, pb1, pb2, pb3, pb4, pb5, pb6]
  all_goals
    have b1 := first_le (fun k => decide (atI (ρ.z.rl 0) k 0 = ρ.i .i64 1)) (ρ.z.rl 0).length
    have b2 : (findN (ρ.z.rl 0) (ρ.i .i64 1) (ρ.z.rl 0).length : Nat) ≤ (ρ.z.rl 0).length := b1
    have c : clampK .i64 ((findN (ρ.z.rl 0) (ρ.i .i64 1) (ρ.z.rl 0).length : Nat) : Int) = ((findN (ρ.z.rl 0) (ρ.i .i64 1) (ρ.z.rl 0).length : Nat) : Int) := clampS (by omega) (by omega)
    simp only [c] at *
    first
      | (have e := find_hit (by omega) (by omega) hi (by assumption)
         first | omega | (apply beq_of; simp only [Bool.not_eq_true', decide_eq_false_iff_not, Bool.false_eq_true, iff_true, true_iff, iff_false, false_iff]; omega) | skip)
      | (have e := find_miss (by omega) (by omega) (by omega) hi
         first | omega | (apply beq_of; simp only [Bool.not_eq_true', decide_eq_false_iff_not, Bool.false_eq_true, iff_true, true_iff, iff_false, false_iff]; omega) | skip)
theorem vcrfout1_2 : VC TTrfout invrfout msrfout 1 trfout1 wrfout1_2 := by
  intro ρ kn hi hp
  have hi : ivrfout1 ρ := hi
  unfold ivrfout1 at hi
  have hF : ρ.z.F = hold.Φ := kn.F
  simp only [h_nil, h_cons, d_le, d_eq, d_not, d_var, d_lit, d_cel, d_leq, d_fn, d_and, d_iff, IE.den, LE.den, AL.den, lenV, true_and, and_true, pcrfout1_1, pcrfout1_0, hF, pi1, pi2, pi3, pi4, pl2, pb1, pb2, pb3, pb4, pb5, pb6] at hp
  obtain ⟨p1, p2, p3, p4, p5, p6⟩ := hp
  refine (show (findN (ρ.z.rl 0) (ρ.i .i64 1) ((ρ.i .i64 1000) + (1 : Int)).toNat = ((ρ.i .i64 1000) + (1 : Int)).toNat) ∧ (((ρ.z.rl 0).length - ((ρ.i .i64 1000) + (1 : Int)).toNat : Nat) < (ρ.z.rl 0).length - (ρ.i .i64 1000).toNat) from ?_)
  exact ⟨find_go (by omega) hi (by assumption), by omega⟩
theorem vcsrfout0 : ∀ v ∈ vwrfout 0, VC TTrfout invrfout msrfout 0 (startF 52 cRFout.pat (.lit true :: cRFout.pre)) v := all_cons vcrfout0_0 (all_nil)
theorem okrfout0 : cfgOk (startF 52 cRFout.pat (.lit true :: cRFout.pre)) = true := by kernel_rfl
theorem sgrfout0 : segL cRFout.roms cRFout (seg TTrfout selrfout 600 tmrfout (startF 52 cRFout.pat (.lit true :: cRFout.pre))) = (true, codesR tmrfout (views (seg TTrfout selrfout 600 tmrfout (startF 52 cRFout.pat (.lit true :: cRFout.pre)))), vwrfout 0) := by kernel_rfl
theorem vcsrfout1 : ∀ v ∈ vwrfout 1, VC TTrfout invrfout msrfout 1 trfout1 v := all_cons (fun _ _ _ _ => all_nil) (all_cons vcrfout1_1 (all_cons vcrfout1_2 (all_nil)))
theorem okrfout1 : cfgOk trfout1 = true := by kernel_rfl
theorem sgrfout1 : segL cRFout.roms cRFout (seg TTrfout selrfout 600 tmrfout trfout1) = (true, codesR tmrfout (views (seg TTrfout selrfout 600 tmrfout trfout1)), vwrfout 1) := by kernel_rfl
theorem lnrfout0 : ∀ ρ, Known TTrfout (startF 52 cRFout.pat (.lit true :: cRFout.pre)) ρ → invrfout 0 ρ.lt → Holds ρ (leanOf (Cfg.pc (startF 52 cRFout.pat (.lit true :: cRFout.pre)))) := by
  intro ρ _ _
  exact (show Holds ρ [] from fun p hp => by cases hp)
theorem lnrfout1 : ∀ ρ, Known TTrfout trfout1 ρ → invrfout 1 ρ.lt → Holds ρ (leanOf (Cfg.pc trfout1)) := by
  intro ρ _ _
  exact (show Holds ρ [] from fun p hp => by cases hp)
theorem told_rfout : Sx.Told hold.Φ cRFout := by
  refine told_of (cs := []) (all_nil) (sel := selrfout) 600 tmrfout invrfout msrfout vwrfout 0 (pc0 := (.lit true :: cRFout.pre)) (by kernel_rfl) (by kernel_rfl) (by kernel_rfl) (post_nil rfl) ?_ ?_ ?_ rfl (fun ρ _ h => h.cons (p := .lit true) (by simp only [BE.den])) (fun _ _ _ _ => trivial) ?_
  · intro k C h
    have := lk_mem h
    simp only [tmrfout, List.mem_cons, Prod.mk.injEq, List.not_mem_nil, or_false] at this
    rcases this with ⟨rfl, rfl⟩ | ⟨rfl, rfl⟩
    · exact okrfout0
    · exact okrfout1
  · intro k C h
    have := lk_mem h
    simp only [tmrfout, List.mem_cons, Prod.mk.injEq, List.not_mem_nil, or_false] at this
    rcases this with ⟨rfl, rfl⟩ | ⟨rfl, rfl⟩
    · exact sgrfout0
    · exact sgrfout1
  · intro k C h
    have := lk_mem h
    simp only [tmrfout, List.mem_cons, Prod.mk.injEq, List.not_mem_nil, or_false] at this
    rcases this with ⟨rfl, rfl⟩ | ⟨rfl, rfl⟩
    · exact vcsrfout0
    · exact vcsrfout1
  · intro k C h
    have := lk_mem h
    simp only [tmrfout, List.mem_cons, Prod.mk.injEq, List.not_mem_nil, or_false] at this
    rcases this with ⟨rfl, rfl⟩ | ⟨rfl, rfl⟩
    · exact lnrfout0
    · exact lnrfout1
noncomputable section
abbrev TTwri : Tab := T hold.Φ cWrites.roms []
def twri1 : Cfg := { top := ⟨79, over (opqS 10000 22) [(0, (SV.rom 0 (IE.lit 0) (IE.len (LE.rom 0)) none)), (1, (SV.func (Go.Fn.func 85) [] [])), (8, (SV.rom 0 (IE.lit 0) (IE.len (LE.rom 0)) none)), (9, (SV.int .i64 (IE.len (LE.rom 0)))), (10, (SV.int .i64 (IE.var .i64 1000)))], ogt (loopTodo (bodyOf (T hold.Φ [] []) 79) 0), [], false, none⟩, rest := [], heap := [], next := 1, pc := .lit true :: ([] ++ [(BE.le (IE.len (LE.rom 0)) (IE.lit 1000000)), (BE.le (IE.lit 0) (IE.var .i64 1000)), (BE.le (IE.var .i64 1000) (IE.len (LE.rom 0)))]) }
def tmwri : List (Nat × Cfg) := [(0, startF 79 cWrites.pat (.lit true :: cWrites.pre)), (1, twri1)]
def selwri : Sel := [(79, 1, 0, 1)]
def wwri0_0 : VW := (VW.cut 1 [(BE.lit true), (BE.le (IE.len (LE.rom 0)) (IE.lit 1000000))] (Sx.Sub.mk [(.i64, (1000, (IE.lit 0)))] [] [] [] [] []))
def vwwri0 : List VW := [wwri0_0]
def pcwri1_0 : List BE := [(BE.lit true), (BE.le (IE.len (LE.rom 0)) (IE.lit 1000000)), (BE.le (IE.lit 0) (IE.var .i64 1000)), (BE.le (IE.var .i64 1000) (IE.len (LE.rom 0)))]
def pcwri1_1 : List BE := ((BE.not (BE.le (IE.len (LE.rom 0)) (IE.var .i64 1000))) :: pcwri1_0)
def wwri1_0 : VW := (VW.done ((BE.le (IE.len (LE.rom 0)) (IE.var .i64 1000)) :: pcwri1_0) (some [(G.i (IE.fn .i64 4 (AL.lst (LE.rom 0) AL.nil)) (IE.len (LE.rom 0))), (G.b (BE.not (BE.le (IE.len (LE.rom 0)) (IE.fn .i64 4 (AL.lst (LE.rom 0) AL.nil)))) (BE.lit false))]))
def wwri1_1 : VW := (VW.done ((BE.eq (IE.cel .i64 (LE.rom 0) (IE.var .i64 1000) 2) (IE.lit 5)) :: pcwri1_1) (some [(G.i (IE.fn .i64 4 (AL.lst (LE.rom 0) AL.nil)) (IE.var .i64 1000)), (G.b (BE.not (BE.le (IE.len (LE.rom 0)) (IE.fn .i64 4 (AL.lst (LE.rom 0) AL.nil)))) (BE.lit true))]))
def wwri1_2 : VW := (VW.cut 1 ((BE.not (BE.eq (IE.cel .i64 (LE.rom 0) (IE.var .i64 1000) 2) (IE.lit 5))) :: pcwri1_1) (Sx.Sub.mk [(.i64, (1000, (IE.add (IE.var .i64 1000) (IE.lit 1))))] [] [] [] [] []))
def vwwri1 : List VW := [wwri1_0, wwri1_1, wwri1_2]
def vwwri : Nat → List VW
  | 0 => vwwri0
  | 1 => vwwri1
  | _ => []
end
def invwri : Nat → Lt → Prop
  | 1, l => writeN (l.z.rl 0) (l.i .i64 1000).toNat = (l.i .i64 1000).toNat
  | _, _ => True
def mswri : Nat → Lt → Nat
  | 0, l => (l.z.rl 0).length + 1
  | 1, l => (l.z.rl 0).length - (l.i .i64 1000).toNat
  | _, _ => 0
theorem vcwri0_0 : VC TTwri invwri mswri 0 (startF 79 cWrites.pat (.lit true :: cWrites.pre)) wwri0_0 := by
  intro ρ kn hi hp
  have hF : ρ.z.F = hold.Φ := kn.F
  simp only [h_nil, h_cons, d_le, d_eq, d_not, d_var, d_lit, d_cel, d_leq, d_fn, d_and, d_iff, IE.den, LE.den, AL.den, lenV, true_and, and_true, hF, pi1, pi2, pi3, pi4, pl2, pb1, pb2, pb3, pb4, pb5, pb6] at hp
  have p1 := hp
  refine (show (writeN (ρ.z.rl 0) (0 : Int).toNat = (0 : Int).toNat) ∧ (((ρ.z.rl 0).length - (0 : Int).toNat : Nat) < (ρ.z.rl 0).length + 1) from ?_)
  exact ⟨rfl, by omega⟩
def ivwri1 (ρ : Rho) : Prop := writeN (ρ.z.rl 0) (ρ.i .i64 1000).toNat = (ρ.i .i64 1000).toNat
theorem vcwri1_0 : VC TTwri invwri mswri 1 twri1 wwri1_0 := by
  intro ρ kn hi hp
  have hi : ivwri1 ρ := hi
  unfold ivwri1 at hi
  have hF : ρ.z.F = hold.Φ := kn.F
  simp only [h_nil, h_cons, d_le, d_eq, d_not, d_var, d_lit, d_cel, d_leq, d_fn, d_and, d_iff, IE.den, LE.den, AL.den, lenV, true_and, and_true, pcwri1_0, hF, pi1, pi2, pi3, pi4, pl2, pb1, pb2, pb3, pb4, pb5, pb6] at hp
  obtain ⟨p1, p2, p3, p4⟩ := hp
  refine all_cons (show (clampK .i64 (ρ.z.F.i 4 [.lst (ρ.z.rl 0)])) = (((ρ.z.rl 0).length : Nat) : Int) from ?_) (all_cons (show (!(decide ((((ρ.z.rl 0).length : Nat) : Int) ≤ (clampK .i64 (ρ.z.F.i 4 [.lst (ρ.z.rl 0)]))))) = false from ?_) (all_nil))
  all_goals try simp only [hF, pi1, pi2, pi3, pi4, pl2, pb1, pb2, pb3, pb4, pb5, pb6]
  all_goals
    have b1 := first_le (fun k => decide (atI (ρ.z.rl 0) k 2 = 5)) (ρ.z.rl 0).length
    have b2 : (writeN (ρ.z.rl 0) (ρ.z.rl 0).length : Nat) ≤ (ρ.z.rl 0).length := b1
    have c : clampK .i64 ((writeN (ρ.z.rl 0) (ρ.z.rl 0).length : Nat) : Int) = ((writeN (ρ.z.rl 0) (ρ.z.rl 0).length : Nat) : Int) := clampS (by omega) (by omega)
    simp only [c] at *
    first
      | (have e := write_hit (by omega) (by omega) hi (by assumption)
         first | omega | (apply beq_of; simp only [Bool.not_eq_true', decide_eq_false_iff_not, Bool.false_eq_true, iff_true, true_iff, iff_false, false_iff]; omega) | skip)
      | (have e := write_miss (by omega) (by omega) (by omega) hi
         first | omega | (apply beq_of; simp only [Bool.not_eq_true', decide_eq_false_iff_not, Bool.false_eq_true, iff_true, true_iff, iff_false, false_iff]; omega) | skip)
theorem vcwri1_1 : VC TTwri invwri mswri 1 twri1 wwri1_1 := by
  intro ρ kn hi hp
  have hi : ivwri1 ρ := hi
  unfold ivwri1 at hi
  have hF : ρ.z.F = hold.Φ := kn.F
  simp only [h_nil, h_cons, d_le, d_eq, d_not, d_var, d_lit, d_cel, d_leq, d_fn, d_and, d_iff, IE.den, LE.den, AL.den, lenV, true_and, and_true, pcwri1_1, pcwri1_0, hF, pi1, pi2, pi3, pi4, pl2, pb1, pb2, pb3, pb4, pb5, pb6] at hp
  obtain ⟨p1, p2, p3, p4, p5⟩ := hp
  refine all_cons (show (clampK .i64 (ρ.z.F.i 4 [.lst (ρ.z.rl 0)])) = (ρ.i .i64 1000) from ?_) (all_cons (show (!(decide ((((ρ.z.rl 0).length : Nat) : Int) ≤ (clampK .i64 (ρ.z.F.i 4 [.lst (ρ.z.rl 0)]))))) = true from ?_) (all_nil))
  all_goals try simp only [hF, pi1, pi2, pi3, pi4, pl2, pb1, pb2, pb3, pb4, pb5, pb6]
  all_goals
    have b1 := first_le (fun k => decide (atI (ρ.z.rl 0) k 2 = 5)) (ρ.z.rl 0).length
    have b2 : (writeN (ρ.z.rl 0) (ρ.z.rl 0).length : Nat) ≤ (ρ.z.rl 0).length := b1
    have c : clampK .i64 ((writeN (ρ.z.rl 0) (ρ.z.rl 0).length : Nat) : Int) = ((writeN (ρ.z.rl 0) (ρ.z.rl 0).length : Nat) : Int) := clampS (by omega) (by omega)
    simp only [c] at *
    first
      | (have e := write_hit (by omega) (by omega) hi (by assumption)
         first | omega | (apply beq_of; simp only [Bool.not_eq_true', decide_eq_false_iff_not, Bool.false_eq_true, iff_true, true_iff, iff_false, false_iff]; omega) | skip)
      | (have e := write_miss (by omega) (by omega) (by omega) hi
         first | omega | (apply beq_of; simp only [Bool.not_eq_true', decide_eq_false_iff_not, Bool.false_eq_true, iff_true, true_iff, iff_false, false_iff]; omega) | skip)
theorem vcwri1_2 : VC TTwri invwri mswri 1 twri1 wwri1_2 := by
  intro ρ kn hi hp
  have hi : ivwri1 ρ := hi
  unfold ivwri1 at hi
  have hF : ρ.z.F = hold.Φ := kn.F
  simp only [h_nil, h_cons, d_le, d_eq, d_not, d_var, d_lit, d_cel, d_leq, d_fn, d_and, d_iff, IE.den, LE.den, AL.den, lenV, true_and, and_true, pcwri1_1, pcwri1_0, hF, pi1, pi2, pi3, pi4, pl2, pb1, pb2, pb3, pb4, pb5, pb6] at hp
  obtain ⟨p1, p2, p3, p4, p5⟩ := hp
  refine (show (writeN (ρ.z.rl 0) ((ρ.i .i64 1000) + (1 : Int)).toNat = ((ρ.i .i64 1000) + (1 : Int)).toNat) ∧ (((ρ.z.rl 0).length - ((ρ.i .i64 1000) + (1 : Int)).toNat : Nat) < (ρ.z.rl 0).length - (ρ.i .i64 1000).toNat) from ?_)
  exact ⟨write_go (by omega) hi (by assumption), by omega⟩
theorem vcswri0 : ∀ v ∈ vwwri 0, VC TTwri invwri mswri 0 (startF 79 cWrites.pat (.lit true :: cWrites.pre)) v := all_cons vcwri0_0 (all_nil)
theorem okwri0 : cfgOk (startF 79 cWrites.pat (.lit true :: cWrites.pre)) = true := by kernel_rfl
theorem sgwri0 : segL cWrites.roms cWrites (seg TTwri selwri 600 tmwri (startF 79 cWrites.pat (.lit true :: cWrites.pre))) = (true, codesR tmwri (views (seg TTwri selwri 600 tmwri (startF 79 cWrites.pat (.lit true :: cWrites.pre)))), vwwri 0) := by kernel_rfl
theorem vcswri1 : ∀ v ∈ vwwri 1, VC TTwri invwri mswri 1 twri1 v := all_cons vcwri1_0 (all_cons vcwri1_1 (all_cons vcwri1_2 (all_nil)))
theorem okwri1 : cfgOk twri1 = true := by kernel_rfl
theorem sgwri1 : segL cWrites.roms cWrites (seg TTwri selwri 600 tmwri twri1) = (true, codesR tmwri (views (seg TTwri selwri 600 tmwri twri1)), vwwri 1) := by kernel_rfl
theorem lnwri0 : ∀ ρ, Known TTwri (startF 79 cWrites.pat (.lit true :: cWrites.pre)) ρ → invwri 0 ρ.lt → Holds ρ (leanOf (Cfg.pc (startF 79 cWrites.pat (.lit true :: cWrites.pre)))) := by
  intro ρ _ _
  exact (show Holds ρ [] from fun p hp => by cases hp)
theorem lnwri1 : ∀ ρ, Known TTwri twri1 ρ → invwri 1 ρ.lt → Holds ρ (leanOf (Cfg.pc twri1)) := by
  intro ρ _ _
  exact (show Holds ρ [] from fun p hp => by cases hp)
theorem told_wri : Sx.Told hold.Φ cWrites := by
  refine told_of (cs := []) (all_nil) (sel := selwri) 600 tmwri invwri mswri vwwri 0 (pc0 := (.lit true :: cWrites.pre)) (by kernel_rfl) (by kernel_rfl) (by kernel_rfl) post_writes ?_ ?_ ?_ rfl (fun ρ _ h => h.cons (p := .lit true) (by simp only [BE.den])) (fun _ _ _ _ => trivial) ?_
  · intro k C h
    have := lk_mem h
    simp only [tmwri, List.mem_cons, Prod.mk.injEq, List.not_mem_nil, or_false] at this
    rcases this with ⟨rfl, rfl⟩ | ⟨rfl, rfl⟩
    · exact okwri0
    · exact okwri1
  · intro k C h
    have := lk_mem h
    simp only [tmwri, List.mem_cons, Prod.mk.injEq, List.not_mem_nil, or_false] at this
    rcases this with ⟨rfl, rfl⟩ | ⟨rfl, rfl⟩
    · exact sgwri0
    · exact sgwri1
  · intro k C h
    have := lk_mem h
    simp only [tmwri, List.mem_cons, Prod.mk.injEq, List.not_mem_nil, or_false] at this
    rcases this with ⟨rfl, rfl⟩ | ⟨rfl, rfl⟩
    · exact vcswri0
    · exact vcswri1
  · intro k C h
    have := lk_mem h
    simp only [tmwri, List.mem_cons, Prod.mk.injEq, List.not_mem_nil, or_false] at this
    rcases this with ⟨rfl, rfl⟩ | ⟨rfl, rfl⟩
    · exact lnwri0
    · exact lnwri1
noncomputable section
abbrev TTfits : Tab := T hold.Φ cFits.roms [cM86, cM86z, cTogF]
def pcfits_0 : List BE := [(BE.lit true), (BE.fn 4 (AL.lst (LE.rom 0) AL.nil)), (BE.le (IE.lit 1) (IE.var .i64 1)), (BE.le (IE.var .i64 1) (IE.lit 5)), (BE.le (IE.len (LE.rom 0)) (IE.lit 999999))]
def wfits_0 : VW := (VW.done ((BE.eq (IE.len (LE.fn 2 (AL.lst (LE.rom 0) AL.nil))) (IE.len (LE.rom 0))) :: (BE.le (IE.lit 1) (IE.len (LE.rom 0))) :: pcfits_0) (some [(G.b (BE.fn 5 (AL.lst (LE.rom 0) (AL.int .i64 (IE.var .i64 1) AL.nil))) (BE.and (BE.fn 6 (AL.lst (LE.cat (LE.fn 2 (AL.lst (LE.rom 0) AL.nil)) (LE.one (AL.int .i64 (IE.var .i64 1) AL.nil))) AL.nil)) (BE.fn 3 (AL.lst (LE.cat (LE.fn 2 (AL.lst (LE.rom 0) AL.nil)) (LE.one (AL.int .i64 (IE.var .i64 1) AL.nil))) AL.nil))))]))
def wfits_1 : VW := (VW.done ((BE.not (BE.le (IE.lit 1) (IE.len (LE.rom 0)))) :: pcfits_0) (some [(G.b (BE.fn 5 (AL.lst (LE.rom 0) (AL.int .i64 (IE.var .i64 1) AL.nil))) (BE.and (BE.fn 6 (AL.lst (LE.one (AL.int .i64 (IE.var .i64 1) AL.nil)) AL.nil)) (BE.fn 3 (AL.lst (LE.one (AL.int .i64 (IE.var .i64 1) AL.nil)) AL.nil))))]))
def vwfits : List VW := [wfits_0, wfits_1]
end
theorem vcfits_0 : VD TTfits (st0 cFits) wfits_0 := by
  intro ρ kn hp
  have hF : ρ.z.F = hold.Φ := kn.F
  simp only [h_nil, h_cons, d_le, d_eq, d_not, d_var, d_lit, d_cel, d_leq, d_fn, d_and, d_iff, IE.den, LE.den, AL.den, lenV, true_and, and_true, pcfits_0, hF, pi1, pi2, pi3, pi4, pl2, pb1, pb2, pb3, pb4, pb5, pb6] at hp
  obtain ⟨p1, p2, p3, p4, p5, p6⟩ := hp
  refine all_cons (show (ρ.z.F.b 5 [.lst (ρ.z.rl 0), .int .i64 (ρ.i .i64 1)]) = ((ρ.z.F.b 6 [.lst ((ρ.z.F.l 2 [.lst (ρ.z.rl 0)]) ++ ([[Go.Value.int .i64 (ρ.i .i64 1)]] : LV))]) && (ρ.z.F.b 3 [.lst ((ρ.z.F.l 2 [.lst (ρ.z.rl 0)]) ++ ([[Go.Value.int .i64 (ρ.i .i64 1)]] : LV))])) from ?_) (all_nil)
  all_goals try simp only [hF, pi1, pi2, pi3, pi4, pl2, pb1, pb2, pb3, pb4, pb5, pb6]
  first
    | (obtain ⟨g1, g2⟩ := more_tog (m := ρ.i .i64 1) (by assumption) (by omega)
       rw [g1, g2, Bool.true_and])
    | (have e : ρ.z.rl 0 = [] := List.length_eq_zero_iff.1 (by omega)
       obtain ⟨g1, g2⟩ := more_tog (m := ρ.i .i64 1) (R := ρ.z.rl 0) (by assumption) (by omega)
       rw [e] at g1 g2 ⊢
       have g3 : modesN [[Value.int .i64 (ρ.i .i64 1)]] [[Value.int .i64 (ρ.i .i64 1)]].length = true := g1
       have g4 : togN [[Value.int .i64 (ρ.i .i64 1)]] 0 [[Value.int .i64 (ρ.i .i64 1)]].length = fitsAll [] 2 (ρ.i .i64 1) ([] : LV).length := g2
       rw [g3, g4, Bool.true_and])
    | skip
theorem vcfits_1 : VD TTfits (st0 cFits) wfits_1 := by
  intro ρ kn hp
  have hF : ρ.z.F = hold.Φ := kn.F
  simp only [h_nil, h_cons, d_le, d_eq, d_not, d_var, d_lit, d_cel, d_leq, d_fn, d_and, d_iff, IE.den, LE.den, AL.den, lenV, true_and, and_true, pcfits_0, hF, pi1, pi2, pi3, pi4, pl2, pb1, pb2, pb3, pb4, pb5, pb6] at hp
  obtain ⟨p1, p2, p3, p4, p5⟩ := hp
  refine all_cons (show (ρ.z.F.b 5 [.lst (ρ.z.rl 0), .int .i64 (ρ.i .i64 1)]) = ((ρ.z.F.b 6 [.lst ([[Go.Value.int .i64 (ρ.i .i64 1)]] : LV)]) && (ρ.z.F.b 3 [.lst ([[Go.Value.int .i64 (ρ.i .i64 1)]] : LV)])) from ?_) (all_nil)
  all_goals try simp only [hF, pi1, pi2, pi3, pi4, pl2, pb1, pb2, pb3, pb4, pb5, pb6]
  first
    | (obtain ⟨g1, g2⟩ := more_tog (m := ρ.i .i64 1) (by assumption) (by omega)
       rw [g1, g2, Bool.true_and])
    | (have e : ρ.z.rl 0 = [] := List.length_eq_zero_iff.1 (by omega)
       obtain ⟨g1, g2⟩ := more_tog (m := ρ.i .i64 1) (R := ρ.z.rl 0) (by assumption) (by omega)
       rw [e] at g1 g2 ⊢
       have g3 : modesN [[Value.int .i64 (ρ.i .i64 1)]] [[Value.int .i64 (ρ.i .i64 1)]].length = true := g1
       have g4 : togN [[Value.int .i64 (ρ.i .i64 1)]] 0 [[Value.int .i64 (ρ.i .i64 1)]].length = fitsAll [] 2 (ρ.i .i64 1) ([] : LV).length := g2
       rw [g3, g4, Bool.true_and])
    | skip
theorem told_fits : Sx.Told hold.Φ cFits := told_vw (cs := [cM86, cM86z, cTogF]) (all_cons told_m86 (all_cons told_m86z (all_cons told_togF (all_nil)))) 4000 vwfits (by kernel_rfl) (by kernel_rfl) (by kernel_rfl) (post_nil rfl) (by kernel_rfl) (by kernel_rfl) (all_cons vcfits_0 (all_cons vcfits_1 (all_nil)))
noncomputable section
abbrev TTrfits : Tab := T hold.Φ cRFits.roms [cFits03]
def trfits1 : Cfg := { top := ⟨54, over (opqS 10000 20) [(0, (SV.rom 0 (IE.lit 0) (IE.len (LE.rom 0)) none)), (1, (SV.int .i64 (IE.var .i64 1))), (5, (SV.int .i64 (IE.var .i64 1000)))], ogt (loopTodo (bodyOf (T hold.Φ [] []) 54) 0), [], false, none⟩, rest := [], heap := [], next := 1, pc := .lit true :: ([] ++ [(BE.le (IE.lit 0) (IE.var .i64 1000)), (BE.le (IE.var .i64 1000) (IE.len (LE.rom 0)))]) }
def tmrfits : List (Nat × Cfg) := [(0, startF 54 cRFits.pat (.lit true :: cRFits.pre)), (1, trfits1)]
def selrfits : Sel := [(54, 1, 0, 1)]
def wrfits0_0 : VW := (VW.cut 1 [(BE.lit true)] (Sx.Sub.mk [(.i64, (1000, (IE.lit 0)))] [] [] [] [] []))
def vwrfits0 : List VW := [wrfits0_0]
def pcrfits1_0 : List BE := [(BE.lit true), (BE.le (IE.lit 0) (IE.var .i64 1000)), (BE.le (IE.var .i64 1000) (IE.len (LE.rom 0)))]
def pcrfits1_1 : List BE := ((BE.not (BE.le (IE.len (LE.rom 0)) (IE.var .i64 1000))) :: pcrfits1_0)
def wrfits1_0 : VW := (VW.done ((BE.le (IE.len (LE.rom 0)) (IE.var .i64 1000)) :: pcrfits1_0) (some [(G.b (BE.fn 5 (AL.lst (LE.rom 0) (AL.int .i64 (IE.var .i64 1) AL.nil))) (BE.lit true))]))
def wrfits1_1 : VW := (VW.cut 1 ((BE.fn 1 (AL.int .i64 (IE.cel .i64 (LE.rom 0) (IE.var .i64 1000) 2) (AL.int .i64 (IE.var .i64 1) AL.nil))) :: pcrfits1_1) (Sx.Sub.mk [(.i64, (1000, (IE.add (IE.var .i64 1000) (IE.lit 1))))] [] [] [] [] []))
def wrfits1_2 : VW := (VW.done ((BE.not (BE.fn 1 (AL.int .i64 (IE.cel .i64 (LE.rom 0) (IE.var .i64 1000) 2) (AL.int .i64 (IE.var .i64 1) AL.nil)))) :: pcrfits1_1) (some [(G.b (BE.fn 5 (AL.lst (LE.rom 0) (AL.int .i64 (IE.var .i64 1) AL.nil))) (BE.lit false))]))
def vwrfits1 : List VW := [wrfits1_0, wrfits1_1, wrfits1_2]
def vwrfits : Nat → List VW
  | 0 => vwrfits0
  | 1 => vwrfits1
  | _ => []
end
def invrfits : Nat → Lt → Prop
  | 1, l => fitsAll (l.z.rl 0) 2 (l.i .i64 1) (l.i .i64 1000).toNat = true
  | _, _ => True
def msrfits : Nat → Lt → Nat
  | 0, l => (l.z.rl 0).length + 1
  | 1, l => (l.z.rl 0).length - (l.i .i64 1000).toNat
  | _, _ => 0
theorem vcrfits0_0 : VC TTrfits invrfits msrfits 0 (startF 54 cRFits.pat (.lit true :: cRFits.pre)) wrfits0_0 := by
  intro ρ kn hi hp
  have hF : ρ.z.F = hold.Φ := kn.F
  simp only [h_nil, h_cons, d_le, d_eq, d_not, d_var, d_lit, d_cel, d_leq, d_fn, d_and, d_iff, IE.den, LE.den, AL.den, lenV, true_and, and_true, hF, pi1, pi2, pi3, pi4, pl2, pb1, pb2, pb3, pb4, pb5, pb6] at hp
  refine (show (fitsAll (ρ.z.rl 0) 2 (ρ.i .i64 1) (0 : Int).toNat = true) ∧ (((ρ.z.rl 0).length - (0 : Int).toNat : Nat) < (ρ.z.rl 0).length + 1) from ?_)
  exact ⟨rfl, by omega⟩
def ivrfits1 (ρ : Rho) : Prop := fitsAll (ρ.z.rl 0) 2 (ρ.i .i64 1) (ρ.i .i64 1000).toNat = true
theorem vcrfits1_0 : VC TTrfits invrfits msrfits 1 trfits1 wrfits1_0 := by
  intro ρ kn hi hp
  have hi : ivrfits1 ρ := hi
  unfold ivrfits1 at hi
  have hF : ρ.z.F = hold.Φ := kn.F
  simp only [h_nil, h_cons, d_le, d_eq, d_not, d_var, d_lit, d_cel, d_leq, d_fn, d_and, d_iff, IE.den, LE.den, AL.den, lenV, true_and, and_true, pcrfits1_0, hF, pi1, pi2, pi3, pi4, pl2, pb1, pb2, pb3, pb4, pb5, pb6] at hp
  obtain ⟨p1, p2, p3⟩ := hp
  refine all_cons (show (ρ.z.F.b 5 [.lst (ρ.z.rl 0), .int .i64 (ρ.i .i64 1)]) = true from ?_) (all_nil)
  all_goals try simp only [hF, pi1, pi2, pi3, pi4, pl2, pb1, pb2, pb3, pb4, pb5, pb6]
  rw [show (ρ.z.rl 0).length = (ρ.i .i64 1000).toNat by omega]; exact hi
theorem vcrfits1_1 : VC TTrfits invrfits msrfits 1 trfits1 wrfits1_1 := by
  intro ρ kn hi hp
  have hi : ivrfits1 ρ := hi
  unfold ivrfits1 at hi
  have hF : ρ.z.F = hold.Φ := kn.F
  simp only [h_nil, h_cons, d_le, d_eq, d_not, d_var, d_lit, d_cel, d_leq, d_fn, d_and, d_iff, IE.den, LE.den, AL.den, lenV, true_and, and_true, pcrfits1_1, pcrfits1_0, hF, pi1, pi2, pi3, pi4, pl2, pb1, pb2, pb3, pb4, pb5, pb6] at hp
  obtain ⟨p1, p2, p3, p4⟩ := hp
  refine (show (fitsAll (ρ.z.rl 0) 2 (ρ.i .i64 1) ((ρ.i .i64 1000) + (1 : Int)).toNat = true) ∧ (((ρ.z.rl 0).length - ((ρ.i .i64 1000) + (1 : Int)).toNat : Nat) < (ρ.z.rl 0).length - (ρ.i .i64 1000).toNat) from ?_)
  exact ⟨by rw [rits_s (by omega), hi, Bool.true_and, fits_comm]; assumption, by omega⟩
theorem vcrfits1_2 : VC TTrfits invrfits msrfits 1 trfits1 wrfits1_2 := by
  intro ρ kn hi hp
  have hi : ivrfits1 ρ := hi
  unfold ivrfits1 at hi
  have hF : ρ.z.F = hold.Φ := kn.F
  simp only [h_nil, h_cons, d_le, d_eq, d_not, d_var, d_lit, d_cel, d_leq, d_fn, d_and, d_iff, IE.den, LE.den, AL.den, lenV, true_and, and_true, pcrfits1_1, pcrfits1_0, hF, pi1, pi2, pi3, pi4, pl2, pb1, pb2, pb3, pb4, pb5, pb6] at hp
  obtain ⟨p1, p2, p3, p4⟩ := hp
  refine all_cons (show (ρ.z.F.b 5 [.lst (ρ.z.rl 0), .int .i64 (ρ.i .i64 1)]) = false from ?_) (all_nil)
  all_goals try simp only [hF, pi1, pi2, pi3, pi4, pl2, pb1, pb2, pb3, pb4, pb5, pb6]
  refine Bool.eq_false_iff.2 fun hh => ?_
  have := fitsAll_at (k := (ρ.i .i64 1000).toNat) (by omega) hh
  rw [fits_comm, ← at_z (by omega)] at this
  exact p1 this
theorem vcsrfits0 : ∀ v ∈ vwrfits 0, VC TTrfits invrfits msrfits 0 (startF 54 cRFits.pat (.lit true :: cRFits.pre)) v := all_cons vcrfits0_0 (all_nil)
theorem okrfits0 : cfgOk (startF 54 cRFits.pat (.lit true :: cRFits.pre)) = true := by kernel_rfl
theorem sgrfits0 : segL cRFits.roms cRFits (seg TTrfits selrfits 600 tmrfits (startF 54 cRFits.pat (.lit true :: cRFits.pre))) = (true, codesR tmrfits (views (seg TTrfits selrfits 600 tmrfits (startF 54 cRFits.pat (.lit true :: cRFits.pre)))), vwrfits 0) := by kernel_rfl
theorem vcsrfits1 : ∀ v ∈ vwrfits 1, VC TTrfits invrfits msrfits 1 trfits1 v := all_cons vcrfits1_0 (all_cons vcrfits1_1 (all_cons vcrfits1_2 (all_nil)))
theorem okrfits1 : cfgOk trfits1 = true := by kernel_rfl
theorem sgrfits1 : segL cRFits.roms cRFits (seg TTrfits selrfits 600 tmrfits trfits1) = (true, codesR tmrfits (views (seg TTrfits selrfits 600 tmrfits trfits1)), vwrfits 1) := by kernel_rfl
theorem lnrfits0 : ∀ ρ, Known TTrfits (startF 54 cRFits.pat (.lit true :: cRFits.pre)) ρ → invrfits 0 ρ.lt → Holds ρ (leanOf (Cfg.pc (startF 54 cRFits.pat (.lit true :: cRFits.pre)))) := by
  intro ρ _ _
  exact (show Holds ρ [] from fun p hp => by cases hp)
theorem lnrfits1 : ∀ ρ, Known TTrfits trfits1 ρ → invrfits 1 ρ.lt → Holds ρ (leanOf (Cfg.pc trfits1)) := by
  intro ρ _ _
  exact (show Holds ρ [] from fun p hp => by cases hp)
theorem told_rfits : Sx.Told hold.Φ cRFits := by
  refine told_of (cs := [cFits03]) (all_cons told_fits03 (all_nil)) (sel := selrfits) 600 tmrfits invrfits msrfits vwrfits 0 (pc0 := (.lit true :: cRFits.pre)) (by kernel_rfl) (by kernel_rfl) (by kernel_rfl) (post_nil rfl) ?_ ?_ ?_ rfl (fun ρ _ h => h.cons (p := .lit true) (by simp only [BE.den])) (fun _ _ _ _ => trivial) ?_
  · intro k C h
    have := lk_mem h
    simp only [tmrfits, List.mem_cons, Prod.mk.injEq, List.not_mem_nil, or_false] at this
    rcases this with ⟨rfl, rfl⟩ | ⟨rfl, rfl⟩
    · exact okrfits0
    · exact okrfits1
  · intro k C h
    have := lk_mem h
    simp only [tmrfits, List.mem_cons, Prod.mk.injEq, List.not_mem_nil, or_false] at this
    rcases this with ⟨rfl, rfl⟩ | ⟨rfl, rfl⟩
    · exact sgrfits0
    · exact sgrfits1
  · intro k C h
    have := lk_mem h
    simp only [tmrfits, List.mem_cons, Prod.mk.injEq, List.not_mem_nil, or_false] at this
    rcases this with ⟨rfl, rfl⟩ | ⟨rfl, rfl⟩
    · exact vcsrfits0
    · exact vcsrfits1
  · intro k C h
    have := lk_mem h
    simp only [tmrfits, List.mem_cons, Prod.mk.injEq, List.not_mem_nil, or_false] at this
    rcases this with ⟨rfl, rfl⟩ | ⟨rfl, rfl⟩
    · exact lnrfits0
    · exact lnrfits1
noncomputable section
abbrev TTsame : Tab := T hold.Φ cSame.roms []
def tsame1 : Cfg := { top := ⟨41, over (opqS 10000 26) [(0, (SV.rom 0 (IE.lit 0) (IE.len (LE.rom 0)) none)), (1, (SV.rom 1 (IE.lit 0) (IE.len (LE.rom 1)) none)), (5, (SV.int .i64 (IE.var .i64 1000)))], ogt (loopTodo (bodyOf (T hold.Φ [] []) 41) 0), [], false, none⟩, rest := [], heap := [], next := 1, pc := .lit true :: ([] ++ [(BE.eq (IE.len (LE.rom 0)) (IE.len (LE.rom 1))), (BE.le (IE.lit 0) (IE.var .i64 1000)), (BE.le (IE.var .i64 1000) (IE.len (LE.rom 0))), (BE.le (IE.var .i64 1000) (IE.len (LE.rom 1)))]) }
def tmsame : List (Nat × Cfg) := [(0, startF 41 cSame.pat [.lit true]), (1, tsame1)]
def selsame : Sel := [(41, 1, 0, 1)]
def pcsame0_0 : List BE := [(BE.lit true)]
def wsame0_0 : VW := (VW.cut 1 ((BE.eq (IE.len (LE.rom 0)) (IE.len (LE.rom 1))) :: pcsame0_0) (Sx.Sub.mk [(.i64, (1000, (IE.lit 0)))] [] [] [] [] []))
def wsame0_1 : VW := (VW.done ((BE.not (BE.eq (IE.len (LE.rom 0)) (IE.len (LE.rom 1)))) :: pcsame0_0) (some [(G.b (BE.leq (LE.rom 0) (LE.rom 1)) (BE.lit false))]))
def vwsame0 : List VW := [wsame0_0, wsame0_1]
def pcsame1_0 : List BE := [(BE.lit true), (BE.eq (IE.len (LE.rom 0)) (IE.len (LE.rom 1))), (BE.le (IE.lit 0) (IE.var .i64 1000)), (BE.le (IE.var .i64 1000) (IE.len (LE.rom 0))), (BE.le (IE.var .i64 1000) (IE.len (LE.rom 1)))]
def pcsame1_1 : List BE := ((BE.not (BE.le (IE.len (LE.rom 0)) (IE.var .i64 1000))) :: pcsame1_0)
def pcsame1_2 : List BE := ((BE.eq (IE.cel .i64 (LE.rom 0) (IE.var .i64 1000) 0) (IE.cel .i64 (LE.rom 1) (IE.var .i64 1000) 0)) :: pcsame1_1)
def pcsame1_3 : List BE := ((BE.eq (IE.cel .i64 (LE.rom 0) (IE.var .i64 1000) 1) (IE.cel .i64 (LE.rom 1) (IE.var .i64 1000) 1)) :: pcsame1_2)
def wsame1_0 : VW := (VW.done ((BE.le (IE.len (LE.rom 0)) (IE.var .i64 1000)) :: pcsame1_0) (some [(G.b (BE.leq (LE.rom 0) (LE.rom 1)) (BE.lit true))]))
def wsame1_1 : VW := (VW.cut 1 ((BE.eq (IE.cel .i64 (LE.rom 0) (IE.var .i64 1000) 2) (IE.cel .i64 (LE.rom 1) (IE.var .i64 1000) 2)) :: pcsame1_3) (Sx.Sub.mk [(.i64, (1000, (IE.add (IE.var .i64 1000) (IE.lit 1))))] [] [] [] [] []))
def wsame1_2 : VW := (VW.done ((BE.not (BE.eq (IE.cel .i64 (LE.rom 0) (IE.var .i64 1000) 2) (IE.cel .i64 (LE.rom 1) (IE.var .i64 1000) 2))) :: pcsame1_3) (some [(G.b (BE.leq (LE.rom 0) (LE.rom 1)) (BE.lit false))]))
def wsame1_3 : VW := (VW.done ((BE.not (BE.eq (IE.cel .i64 (LE.rom 0) (IE.var .i64 1000) 1) (IE.cel .i64 (LE.rom 1) (IE.var .i64 1000) 1))) :: pcsame1_2) (some [(G.b (BE.leq (LE.rom 0) (LE.rom 1)) (BE.lit false))]))
def wsame1_4 : VW := (VW.done ((BE.not (BE.eq (IE.cel .i64 (LE.rom 0) (IE.var .i64 1000) 0) (IE.cel .i64 (LE.rom 1) (IE.var .i64 1000) 0))) :: pcsame1_1) (some [(G.b (BE.leq (LE.rom 0) (LE.rom 1)) (BE.lit false))]))
def vwsame1 : List VW := [wsame1_0, wsame1_1, wsame1_2, wsame1_3, wsame1_4]
def vwsame : Nat → List VW
  | 0 => vwsame0
  | 1 => vwsame1
  | _ => []
end
def invsame : Nat → Lt → Prop
  | 1, l => (l.z.rl 0).take (l.i .i64 1000).toNat = (l.z.rl 1).take (l.i .i64 1000).toNat
  | _, _ => True
def mssame : Nat → Lt → Nat
  | 0, l => (l.z.rl 0).length + 1
  | 1, l => (l.z.rl 0).length - (l.i .i64 1000).toNat
  | _, _ => 0
theorem vcsame0_0 : VC TTsame invsame mssame 0 (startF 41 cSame.pat [.lit true]) wsame0_0 := by
  intro ρ kn hi hp
  have hF : ρ.z.F = hold.Φ := kn.F
  simp only [h_nil, h_cons, d_le, d_eq, d_not, d_var, d_lit, d_cel, d_leq, d_fn, d_and, d_iff, IE.den, LE.den, AL.den, lenV, true_and, and_true, pcsame0_0, hF, pi1, pi2, pi3, pi4, pl2, pb1, pb2, pb3, pb4, pb5, pb6] at hp
  have p1 := hp
  refine (show ((ρ.z.rl 0).take (0 : Int).toNat = (ρ.z.rl 1).take (0 : Int).toNat) ∧ (((ρ.z.rl 0).length - (0 : Int).toNat : Nat) < (ρ.z.rl 0).length + 1) from ?_)
  exact ⟨rfl, by omega⟩
theorem vcsame0_1 : VC TTsame invsame mssame 0 (startF 41 cSame.pat [.lit true]) wsame0_1 := by
  intro ρ kn hi hp
  have hF : ρ.z.F = hold.Φ := kn.F
  simp only [h_nil, h_cons, d_le, d_eq, d_not, d_var, d_lit, d_cel, d_leq, d_fn, d_and, d_iff, IE.den, LE.den, AL.den, lenV, true_and, and_true, pcsame0_0, hF, pi1, pi2, pi3, pi4, pl2, pb1, pb2, pb3, pb4, pb5, pb6] at hp
  have p1 := hp
  refine all_cons (show (eqV (ρ.z.rl 0) (ρ.z.rl 1)) = false from ?_) (all_nil)
  all_goals try simp only [hF, pi1, pi2, pi3, pi4, pl2, pb1, pb2, pb3, pb4, pb5, pb6]
  exact eqV_f fun hh => p1 (by rw [hh])
def ivsame1 (ρ : Rho) : Prop := (ρ.z.rl 0).take (ρ.i .i64 1000).toNat = (ρ.z.rl 1).take (ρ.i .i64 1000).toNat
theorem vcgsame1_1 : VC TTsame invsame mssame 1 tsame1 wsame1_2 ∧ VC TTsame invsame mssame 1 tsame1 wsame1_3 ∧ VC TTsame invsame mssame 1 tsame1 wsame1_4 := by
  refine ⟨?_, ?_, ?_⟩
  all_goals
    intro ρ kn hi hp
    have hi : ivsame1 ρ := hi
    unfold ivsame1 at hi
    have hF : ρ.z.F = hold.Φ := kn.F
    simp only [h_nil, h_cons, d_le, d_eq, d_not, d_var, d_lit, d_cel, d_leq, d_fn, d_and, d_iff, IE.den, LE.den, AL.den, lenV, true_and, and_true, pcsame1_3, pcsame1_2, pcsame1_1, pcsame1_0, hF, pi1, pi2, pi3, pi4, pl2, pb1, pb2, pb3, pb4, pb5, pb6] at hp
    have p1 := And.left hp
    replace hp := And.right hp
    repeat (have _ := And.left hp; replace hp := And.right hp)
    refine all_cons (show (eqV (ρ.z.rl 0) (ρ.z.rl 1)) = false from ?_) (all_nil)
    all_goals try simp only [hF, pi1, pi2, pi3, pi4, pl2, pb1, pb2, pb3, pb4, pb5, pb6]
    exact eqV_f fun hh => p1 (by rw [hh])
theorem vcsame1_0 : VC TTsame invsame mssame 1 tsame1 wsame1_0 := by
  intro ρ kn hi hp
  have hi : ivsame1 ρ := hi
  unfold ivsame1 at hi
  have hF : ρ.z.F = hold.Φ := kn.F
  simp only [h_nil, h_cons, d_le, d_eq, d_not, d_var, d_lit, d_cel, d_leq, d_fn, d_and, d_iff, IE.den, LE.den, AL.den, lenV, true_and, and_true, pcsame1_0, hF, pi1, pi2, pi3, pi4, pl2, pb1, pb2, pb3, pb4, pb5, pb6] at hp
  obtain ⟨p1, p2, p3, p4, p5⟩ := hp
  refine all_cons (show (eqV (ρ.z.rl 0) (ρ.z.rl 1)) = true from ?_) (all_nil)
  all_goals try simp only [hF, pi1, pi2, pi3, pi4, pl2, pb1, pb2, pb3, pb4, pb5, pb6]
  exact eqV_t (same_end hi (by omega) (by omega))
theorem vcsame1_1 : VC TTsame invsame mssame 1 tsame1 wsame1_1 := by
  intro ρ kn hi hp
  have hi : ivsame1 ρ := hi
  unfold ivsame1 at hi
  have hF : ρ.z.F = hold.Φ := kn.F
  simp only [h_nil, h_cons, d_le, d_eq, d_not, d_var, d_lit, d_cel, d_leq, d_fn, d_and, d_iff, IE.den, LE.den, AL.den, lenV, true_and, and_true, pcsame1_3, pcsame1_2, pcsame1_1, pcsame1_0, hF, pi1, pi2, pi3, pi4, pl2, pb1, pb2, pb3, pb4, pb5, pb6] at hp
  obtain ⟨p1, p2, p3, p4, p5, p6, p7, p8⟩ := hp
  refine (show ((ρ.z.rl 0).take ((ρ.i .i64 1000) + (1 : Int)).toNat = (ρ.z.rl 1).take ((ρ.i .i64 1000) + (1 : Int)).toNat) ∧ (((ρ.z.rl 0).length - ((ρ.i .i64 1000) + (1 : Int)).toNat : Nat) < (ρ.z.rl 0).length - (ρ.i .i64 1000).toNat) from ?_)
  exact ⟨same_s (ks := ks3) rfl (kn.rom 0 _ _ rfl) (kn.rom 1 _ _ rfl) (by omega) (by omega) (by omega) hi ⟨by assumption, by assumption, by assumption, trivial⟩, by omega⟩
theorem vcssame0 : ∀ v ∈ vwsame 0, VC TTsame invsame mssame 0 (startF 41 cSame.pat [.lit true]) v := all_cons vcsame0_0 (all_cons vcsame0_1 (all_nil))
theorem oksame0 : cfgOk (startF 41 cSame.pat [.lit true]) = true := by kernel_rfl
theorem sgsame0 : segL cSame.roms cSame (seg TTsame selsame 600 tmsame (startF 41 cSame.pat [.lit true])) = (true, codesR tmsame (views (seg TTsame selsame 600 tmsame (startF 41 cSame.pat [.lit true]))), vwsame 0) := by kernel_rfl
theorem vcssame1 : ∀ v ∈ vwsame 1, VC TTsame invsame mssame 1 tsame1 v := all_cons vcsame1_0 (all_cons vcsame1_1 (all_cons vcgsame1_1.1 (all_cons vcgsame1_1.2.1 (all_cons vcgsame1_1.2.2 (all_nil)))))
theorem oksame1 : cfgOk tsame1 = true := by kernel_rfl
theorem sgsame1 : segL cSame.roms cSame (seg TTsame selsame 600 tmsame tsame1) = (true, codesR tmsame (views (seg TTsame selsame 600 tmsame tsame1)), vwsame 1) := by kernel_rfl
theorem lnsame0 : ∀ ρ, Known TTsame (startF 41 cSame.pat [.lit true]) ρ → invsame 0 ρ.lt → Holds ρ (leanOf (Cfg.pc (startF 41 cSame.pat [.lit true]))) := by
  intro ρ _ _
  exact (show Holds ρ [] from fun p hp => by cases hp)
theorem lnsame1 : ∀ ρ, Known TTsame tsame1 ρ → invsame 1 ρ.lt → Holds ρ (leanOf (Cfg.pc tsame1)) := by
  intro ρ _ _
  exact (show Holds ρ [] from fun p hp => by cases hp)
theorem told_same : Sx.Told hold.Φ cSame := by
  refine told_of (cs := []) (all_nil) (sel := selsame) 600 tmsame invsame mssame vwsame 0 (pc0 := [.lit true]) (by kernel_rfl) (by kernel_rfl) (by kernel_rfl) (post_nil rfl) ?_ ?_ ?_ rfl (fun ρ _ _ => by simp [Holds, BE.den]) (fun _ _ _ _ => trivial) ?_
  · intro k C h
    have := lk_mem h
    simp only [tmsame, List.mem_cons, Prod.mk.injEq, List.not_mem_nil, or_false] at this
    rcases this with ⟨rfl, rfl⟩ | ⟨rfl, rfl⟩
    · exact oksame0
    · exact oksame1
  · intro k C h
    have := lk_mem h
    simp only [tmsame, List.mem_cons, Prod.mk.injEq, List.not_mem_nil, or_false] at this
    rcases this with ⟨rfl, rfl⟩ | ⟨rfl, rfl⟩
    · exact sgsame0
    · exact sgsame1
  · intro k C h
    have := lk_mem h
    simp only [tmsame, List.mem_cons, Prod.mk.injEq, List.not_mem_nil, or_false] at this
    rcases this with ⟨rfl, rfl⟩ | ⟨rfl, rfl⟩
    · exact vcssame0
    · exact vcssame1
  · intro k C h
    have := lk_mem h
    simp only [tmsame, List.mem_cons, Prod.mk.injEq, List.not_mem_nil, or_false] at this
    rcases this with ⟨rfl, rfl⟩ | ⟨rfl, rfl⟩
    · exact lnsame0
    · exact lnsame1
end Go.Proofs.YteblnjgghbclpaaDoor.hold
