/- Layer hold: modes. No condition. -/
import Derived.Test.YteblnjgghbclpaaDoorHb
set_option linter.unusedVariables false
set_option linter.unusedSimpArgs false
set_option linter.deprecated false
namespace Go.Proofs.YteblnjgghbclpaaDoor.hold
open Go Go.Proofs.YteblnjgghbclpaaDoor.Sx
noncomputable section
def wfits03_0 : VW := (VW.done [(BE.eq (IE.var .i64 1) (IE.lit 0)), (BE.lit true)] (some [(G.b (BE.fn 1 (AL.int .i64 (IE.var .i64 1) (AL.int .i64 (IE.var .i64 2) AL.nil))) (BE.lit true))]))
def wfits03_1 : VW := (VW.done [(BE.eq (IE.var .i64 2) (IE.lit 0)), (BE.not (BE.eq (IE.var .i64 1) (IE.lit 0))), (BE.lit true)] (some [(G.b (BE.fn 1 (AL.int .i64 (IE.var .i64 1) (AL.int .i64 (IE.var .i64 2) AL.nil))) (BE.lit true))]))
def wfits03_2 : VW := (VW.done [(BE.eq (IE.var .i64 1) (IE.lit 5)), (BE.not (BE.eq (IE.var .i64 2) (IE.lit 0))), (BE.not (BE.eq (IE.var .i64 1) (IE.lit 0))), (BE.lit true)] (some [(G.b (BE.fn 1 (AL.int .i64 (IE.var .i64 1) (AL.int .i64 (IE.var .i64 2) AL.nil))) (BE.lit false))]))
def wfits03_3 : VW := (VW.done [(BE.eq (IE.var .i64 2) (IE.lit 5)), (BE.not (BE.eq (IE.var .i64 1) (IE.lit 5))), (BE.not (BE.eq (IE.var .i64 2) (IE.lit 0))), (BE.not (BE.eq (IE.var .i64 1) (IE.lit 0))), (BE.lit true)] (some [(G.b (BE.fn 1 (AL.int .i64 (IE.var .i64 1) (AL.int .i64 (IE.var .i64 2) AL.nil))) (BE.lit false))]))
def wfits03_4 : VW := (VW.done [(BE.eq (IE.var .i64 1) (IE.lit 1)), (BE.not (BE.eq (IE.var .i64 2) (IE.lit 5))), (BE.not (BE.eq (IE.var .i64 1) (IE.lit 5))), (BE.not (BE.eq (IE.var .i64 2) (IE.lit 0))), (BE.not (BE.eq (IE.var .i64 1) (IE.lit 0))), (BE.lit true)] (some [(G.b (BE.fn 1 (AL.int .i64 (IE.var .i64 1) (AL.int .i64 (IE.var .i64 2) AL.nil))) (BE.lit true))]))
def wfits03_5 : VW := (VW.done [(BE.eq (IE.var .i64 2) (IE.lit 1)), (BE.not (BE.eq (IE.var .i64 1) (IE.lit 1))), (BE.not (BE.eq (IE.var .i64 2) (IE.lit 5))), (BE.not (BE.eq (IE.var .i64 1) (IE.lit 5))), (BE.not (BE.eq (IE.var .i64 2) (IE.lit 0))), (BE.not (BE.eq (IE.var .i64 1) (IE.lit 0))), (BE.lit true)] (some [(G.b (BE.fn 1 (AL.int .i64 (IE.var .i64 1) (AL.int .i64 (IE.var .i64 2) AL.nil))) (BE.lit true))]))
def wfits03_6 : VW := (VW.done [(BE.eq (IE.var .i64 1) (IE.var .i64 2)), (BE.not (BE.eq (IE.var .i64 2) (IE.lit 1))), (BE.not (BE.eq (IE.var .i64 1) (IE.lit 1))), (BE.not (BE.eq (IE.var .i64 2) (IE.lit 5))), (BE.not (BE.eq (IE.var .i64 1) (IE.lit 5))), (BE.not (BE.eq (IE.var .i64 2) (IE.lit 0))), (BE.not (BE.eq (IE.var .i64 1) (IE.lit 0))), (BE.lit true)] (some [(G.b (BE.fn 1 (AL.int .i64 (IE.var .i64 1) (AL.int .i64 (IE.var .i64 2) AL.nil))) (BE.not (BE.eq (IE.var .i64 1) (IE.lit 4))))]))
def wfits03_7 : VW := (VW.done [(BE.not (BE.eq (IE.var .i64 1) (IE.var .i64 2))), (BE.not (BE.eq (IE.var .i64 2) (IE.lit 1))), (BE.not (BE.eq (IE.var .i64 1) (IE.lit 1))), (BE.not (BE.eq (IE.var .i64 2) (IE.lit 5))), (BE.not (BE.eq (IE.var .i64 1) (IE.lit 5))), (BE.not (BE.eq (IE.var .i64 2) (IE.lit 0))), (BE.not (BE.eq (IE.var .i64 1) (IE.lit 0))), (BE.lit true)] (some [(G.b (BE.fn 1 (AL.int .i64 (IE.var .i64 1) (AL.int .i64 (IE.var .i64 2) AL.nil))) (BE.lit false))]))
def vwfits03 : List VW := [wfits03_0, wfits03_1, wfits03_2, wfits03_3, wfits03_4, wfits03_5, wfits03_6, wfits03_7]
end
theorem vcfits03_0 : VD (T hold.Φ cFits03.roms []) (st0 cFits03) wfits03_0 := by
  intro ρ kn hp
  have hF : ρ.z.F = hold.Φ := kn.F
  simp only [h_nil, h_cons, d_le, d_eq, d_not, d_var, d_lit, d_cel, d_leq, d_fn, d_and, d_iff, IE.den, LE.den, AL.den, lenV, true_and, and_true, hF, pb1, pb2, pb3, pb4, pb5, pb6, fits_iff, may_iff, decide_eq_true_eq] at hp
  have p1 := hp
  refine all_cons (show (ρ.z.F.b 1 [.int .i64 (ρ.i .i64 1), .int .i64 (ρ.i .i64 2)]) = true from ?_) (all_nil)
  all_goals try simp only [hF, pb1, pb2, pb3, pb4, pb5, pb6, fits_iff, may_iff, decide_eq_true_eq]
  all_goals first | omega | skip
  all_goals
    apply beq_of
    simp only [fits_iff, may_iff, decide_eq_true_eq, Bool.and_eq_true, Bool.not_eq_true', Bool.false_eq_true, true_iff, iff_true, false_iff, iff_false, decide_eq_false_iff_not]
    omega
theorem vcfits03_1 : VD (T hold.Φ cFits03.roms []) (st0 cFits03) wfits03_1 := by
  intro ρ kn hp
  have hF : ρ.z.F = hold.Φ := kn.F
  simp only [h_nil, h_cons, d_le, d_eq, d_not, d_var, d_lit, d_cel, d_leq, d_fn, d_and, d_iff, IE.den, LE.den, AL.den, lenV, true_and, and_true, hF, pb1, pb2, pb3, pb4, pb5, pb6, fits_iff, may_iff, decide_eq_true_eq] at hp
  obtain ⟨p1, p2⟩ := hp
  refine all_cons (show (ρ.z.F.b 1 [.int .i64 (ρ.i .i64 1), .int .i64 (ρ.i .i64 2)]) = true from ?_) (all_nil)
  all_goals try simp only [hF, pb1, pb2, pb3, pb4, pb5, pb6, fits_iff, may_iff, decide_eq_true_eq]
  all_goals first | omega | skip
  all_goals
    apply beq_of
    simp only [fits_iff, may_iff, decide_eq_true_eq, Bool.and_eq_true, Bool.not_eq_true', Bool.false_eq_true, true_iff, iff_true, false_iff, iff_false, decide_eq_false_iff_not]
    omega
theorem vcfits03_2 : VD (T hold.Φ cFits03.roms []) (st0 cFits03) wfits03_2 := by
  intro ρ kn hp
  have hF : ρ.z.F = hold.Φ := kn.F
  simp only [h_nil, h_cons, d_le, d_eq, d_not, d_var, d_lit, d_cel, d_leq, d_fn, d_and, d_iff, IE.den, LE.den, AL.den, lenV, true_and, and_true, hF, pb1, pb2, pb3, pb4, pb5, pb6, fits_iff, may_iff, decide_eq_true_eq] at hp
  obtain ⟨p1, p2, p3⟩ := hp
  refine all_cons (show (ρ.z.F.b 1 [.int .i64 (ρ.i .i64 1), .int .i64 (ρ.i .i64 2)]) = false from ?_) (all_nil)
  all_goals try simp only [hF, pb1, pb2, pb3, pb4, pb5, pb6, fits_iff, may_iff, decide_eq_true_eq]
  all_goals first | omega | skip
  all_goals
    apply beq_of
    simp only [fits_iff, may_iff, decide_eq_true_eq, Bool.and_eq_true, Bool.not_eq_true', Bool.false_eq_true, true_iff, iff_true, false_iff, iff_false, decide_eq_false_iff_not]
    omega
theorem vcfits03_3 : VD (T hold.Φ cFits03.roms []) (st0 cFits03) wfits03_3 := by
  intro ρ kn hp
  have hF : ρ.z.F = hold.Φ := kn.F
  simp only [h_nil, h_cons, d_le, d_eq, d_not, d_var, d_lit, d_cel, d_leq, d_fn, d_and, d_iff, IE.den, LE.den, AL.den, lenV, true_and, and_true, hF, pb1, pb2, pb3, pb4, pb5, pb6, fits_iff, may_iff, decide_eq_true_eq] at hp
  obtain ⟨p1, p2, p3, p4⟩ := hp
  refine all_cons (show (ρ.z.F.b 1 [.int .i64 (ρ.i .i64 1), .int .i64 (ρ.i .i64 2)]) = false from ?_) (all_nil)
  all_goals try simp only [hF, pb1, pb2, pb3, pb4, pb5, pb6, fits_iff, may_iff, decide_eq_true_eq]
  all_goals first | omega | skip
  all_goals
    apply beq_of
    simp only [fits_iff, may_iff, decide_eq_true_eq, Bool.and_eq_true, Bool.not_eq_true', Bool.false_eq_true, true_iff, iff_true, false_iff, iff_false, decide_eq_false_iff_not]
    omega
theorem vcfits03_4 : VD (T hold.Φ cFits03.roms []) (st0 cFits03) wfits03_4 := by
  intro ρ kn hp
  have hF : ρ.z.F = hold.Φ := kn.F
  simp only [h_nil, h_cons, d_le, d_eq, d_not, d_var, d_lit, d_cel, d_leq, d_fn, d_and, d_iff, IE.den, LE.den, AL.den, lenV, true_and, and_true, hF, pb1, pb2, pb3, pb4, pb5, pb6, fits_iff, may_iff, decide_eq_true_eq] at hp
  obtain ⟨p1, p2, p3, p4, p5⟩ := hp
  refine all_cons (show (ρ.z.F.b 1 [.int .i64 (ρ.i .i64 1), .int .i64 (ρ.i .i64 2)]) = true from ?_) (all_nil)
  all_goals try simp only [hF, pb1, pb2, pb3, pb4, pb5, pb6, fits_iff, may_iff, decide_eq_true_eq]
  all_goals first | omega | skip
  all_goals
    apply beq_of
    simp only [fits_iff, may_iff, decide_eq_true_eq, Bool.and_eq_true, Bool.not_eq_true', Bool.false_eq_true, true_iff, iff_true, false_iff, iff_false, decide_eq_false_iff_not]
    omega
theorem vcfits03_5 : VD (T hold.Φ cFits03.roms []) (st0 cFits03) wfits03_5 := by
  intro ρ kn hp
  have hF : ρ.z.F = hold.Φ := kn.F
  simp only [h_nil, h_cons, d_le, d_eq, d_not, d_var, d_lit, d_cel, d_leq, d_fn, d_and, d_iff, IE.den, LE.den, AL.den, lenV, true_and, and_true, hF, pb1, pb2, pb3, pb4, pb5, pb6, fits_iff, may_iff, decide_eq_true_eq] at hp
  obtain ⟨p1, p2, p3, p4, p5, p6⟩ := hp
  refine all_cons (show (ρ.z.F.b 1 [.int .i64 (ρ.i .i64 1), .int .i64 (ρ.i .i64 2)]) = true from ?_) (all_nil)
  all_goals try simp only [hF, pb1, pb2, pb3, pb4, pb5, pb6, fits_iff, may_iff, decide_eq_true_eq]
  all_goals first | omega | skip
  all_goals
    apply beq_of
    simp only [fits_iff, may_iff, decide_eq_true_eq, Bool.and_eq_true, Bool.not_eq_true', Bool.false_eq_true, true_iff, iff_true, false_iff, iff_false, decide_eq_false_iff_not]
    omega
theorem vcfits03_6 : VD (T hold.Φ cFits03.roms []) (st0 cFits03) wfits03_6 := by
  intro ρ kn hp
  have hF : ρ.z.F = hold.Φ := kn.F
  simp only [h_nil, h_cons, d_le, d_eq, d_not, d_var, d_lit, d_cel, d_leq, d_fn, d_and, d_iff, IE.den, LE.den, AL.den, lenV, true_and, and_true, hF, pb1, pb2, pb3, pb4, pb5, pb6, fits_iff, may_iff, decide_eq_true_eq] at hp
  obtain ⟨p1, p2, p3, p4, p5, p6, p7⟩ := hp
  refine all_cons (show (ρ.z.F.b 1 [.int .i64 (ρ.i .i64 1), .int .i64 (ρ.i .i64 2)]) = (!(decide ((ρ.i .i64 1) = (4 : Int)))) from ?_) (all_nil)
  all_goals try simp only [hF, pb1, pb2, pb3, pb4, pb5, pb6, fits_iff, may_iff, decide_eq_true_eq]
  all_goals first | omega | skip
  all_goals
    apply beq_of
    simp only [fits_iff, may_iff, decide_eq_true_eq, Bool.and_eq_true, Bool.not_eq_true', Bool.false_eq_true, true_iff, iff_true, false_iff, iff_false, decide_eq_false_iff_not]
    omega
theorem vcfits03_7 : VD (T hold.Φ cFits03.roms []) (st0 cFits03) wfits03_7 := by
  intro ρ kn hp
  have hF : ρ.z.F = hold.Φ := kn.F
  simp only [h_nil, h_cons, d_le, d_eq, d_not, d_var, d_lit, d_cel, d_leq, d_fn, d_and, d_iff, IE.den, LE.den, AL.den, lenV, true_and, and_true, hF, pb1, pb2, pb3, pb4, pb5, pb6, fits_iff, may_iff, decide_eq_true_eq] at hp
  obtain ⟨p1, p2, p3, p4, p5, p6, p7⟩ := hp
  refine all_cons (show (ρ.z.F.b 1 [.int .i64 (ρ.i .i64 1), .int .i64 (ρ.i .i64 2)]) = false from ?_) (all_nil)
  all_goals try simp only [hF, pb1, pb2, pb3, pb4, pb5, pb6, fits_iff, may_iff, decide_eq_true_eq]
  all_goals first | omega | skip
  all_goals
    apply beq_of
    simp only [fits_iff, may_iff, decide_eq_true_eq, Bool.and_eq_true, Bool.not_eq_true', Bool.false_eq_true, true_iff, iff_true, false_iff, iff_false, decide_eq_false_iff_not]
    omega
theorem told_fits03 : Sx.Told hold.Φ cFits03 := told_vw (cs := []) (all_nil) 4000 vwfits03 (by kernel_rfl) (by kernel_rfl) (by kernel_rfl) (post_nil rfl) (by kernel_rfl) (by kernel_rfl) (all_cons vcfits03_0 (all_cons vcfits03_1 (all_cons vcfits03_2 (all_cons vcfits03_3 (all_cons vcfits03_4 (all_cons vcfits03_5 (all_cons vcfits03_6 (all_cons vcfits03_7 (all_nil)))))))))
theorem told_right03 : Sx.Told hold.Φ cRight03 := told_auto (cs := []) (all_nil) 4000 (by kernel_rfl) (by kernel_rfl) (by kernel_rfl) (post_nil rfl) (by kernel_rfl) (by kernel_rfl)
noncomputable section
def wmay_0 : VW := (VW.done [(BE.le (IE.lit 256) (IE.var .i64 1)), (BE.le (IE.lit 0) (IE.var .i64 1)), (BE.lit true)] (some [(G.b (BE.fn 2 (AL.int .i64 (IE.var .i64 1) (AL.int .i64 (IE.var .i64 2) (AL.int .i64 (IE.var .i64 3) AL.nil)))) (BE.lit false))]))
def wmay_1 : VW := (VW.done [(BE.eq (IE.var .i64 3) (IE.lit 0)), (BE.le (IE.var .i64 2) (IE.lit 1099511627776)), (BE.le (IE.lit 1) (IE.var .i64 2)), (BE.not (BE.le (IE.lit 256) (IE.var .i64 1))), (BE.le (IE.lit 0) (IE.var .i64 1)), (BE.lit true)] (some [(G.b (BE.fn 2 (AL.int .i64 (IE.var .i64 1) (AL.int .i64 (IE.var .i64 2) (AL.int .i64 (IE.var .i64 3) AL.nil)))) (BE.lit false))]))
def wmay_2 : VW := (VW.done [(BE.not (BE.eq (IE.var .i64 3) (IE.lit 0))), (BE.le (IE.var .i64 2) (IE.lit 1099511627776)), (BE.le (IE.lit 1) (IE.var .i64 2)), (BE.not (BE.le (IE.lit 256) (IE.var .i64 1))), (BE.le (IE.lit 0) (IE.var .i64 1)), (BE.lit true)] (some [(G.b (BE.fn 2 (AL.int .i64 (IE.var .i64 1) (AL.int .i64 (IE.var .i64 2) (AL.int .i64 (IE.var .i64 3) AL.nil)))) (BE.and (BE.le (IE.lit 0) (IE.var .i64 3)) (BE.le (IE.var .i64 3) (IE.lit 5))))]))
def wmay_3 : VW := (VW.done [(BE.not (BE.le (IE.var .i64 2) (IE.lit 1099511627776))), (BE.le (IE.lit 1) (IE.var .i64 2)), (BE.not (BE.le (IE.lit 256) (IE.var .i64 1))), (BE.le (IE.lit 0) (IE.var .i64 1)), (BE.lit true)] (some [(G.b (BE.fn 2 (AL.int .i64 (IE.var .i64 1) (AL.int .i64 (IE.var .i64 2) (AL.int .i64 (IE.var .i64 3) AL.nil)))) (BE.lit false))]))
def wmay_4 : VW := (VW.done [(BE.not (BE.le (IE.lit 1) (IE.var .i64 2))), (BE.not (BE.le (IE.lit 256) (IE.var .i64 1))), (BE.le (IE.lit 0) (IE.var .i64 1)), (BE.lit true)] (some [(G.b (BE.fn 2 (AL.int .i64 (IE.var .i64 1) (AL.int .i64 (IE.var .i64 2) (AL.int .i64 (IE.var .i64 3) AL.nil)))) (BE.lit false))]))
def wmay_5 : VW := (VW.done [(BE.not (BE.le (IE.lit 0) (IE.var .i64 1))), (BE.lit true)] (some [(G.b (BE.fn 2 (AL.int .i64 (IE.var .i64 1) (AL.int .i64 (IE.var .i64 2) (AL.int .i64 (IE.var .i64 3) AL.nil)))) (BE.lit false))]))
def vwmay : List VW := [wmay_0, wmay_1, wmay_2, wmay_3, wmay_4, wmay_5]
end
theorem vcmay_0 : VD (T hold.Φ cMay.roms [cRight03]) (st0 cMay) wmay_0 := by
  intro ρ kn hp
  have hF : ρ.z.F = hold.Φ := kn.F
  simp only [h_nil, h_cons, d_le, d_eq, d_not, d_var, d_lit, d_cel, d_leq, d_fn, d_and, d_iff, IE.den, LE.den, AL.den, lenV, true_and, and_true, hF, pb1, pb2, pb3, pb4, pb5, pb6, fits_iff, may_iff, decide_eq_true_eq] at hp
  obtain ⟨p1, p2⟩ := hp
  refine all_cons (show (ρ.z.F.b 2 [.int .i64 (ρ.i .i64 1), .int .i64 (ρ.i .i64 2), .int .i64 (ρ.i .i64 3)]) = false from ?_) (all_nil)
  all_goals try simp only [hF, pb1, pb2, pb3, pb4, pb5, pb6, fits_iff, may_iff, decide_eq_true_eq]
  all_goals first | omega | skip
  all_goals
    apply beq_of
    simp only [fits_iff, may_iff, decide_eq_true_eq, Bool.and_eq_true, Bool.not_eq_true', Bool.false_eq_true, true_iff, iff_true, false_iff, iff_false, decide_eq_false_iff_not]
    omega
theorem vcmay_1 : VD (T hold.Φ cMay.roms [cRight03]) (st0 cMay) wmay_1 := by
  intro ρ kn hp
  have hF : ρ.z.F = hold.Φ := kn.F
  simp only [h_nil, h_cons, d_le, d_eq, d_not, d_var, d_lit, d_cel, d_leq, d_fn, d_and, d_iff, IE.den, LE.den, AL.den, lenV, true_and, and_true, hF, pb1, pb2, pb3, pb4, pb5, pb6, fits_iff, may_iff, decide_eq_true_eq] at hp
  obtain ⟨p1, p2, p3, p4, p5⟩ := hp
  refine all_cons (show (ρ.z.F.b 2 [.int .i64 (ρ.i .i64 1), .int .i64 (ρ.i .i64 2), .int .i64 (ρ.i .i64 3)]) = false from ?_) (all_nil)
  all_goals try simp only [hF, pb1, pb2, pb3, pb4, pb5, pb6, fits_iff, may_iff, decide_eq_true_eq]
  all_goals first | omega | skip
  all_goals
    apply beq_of
    simp only [fits_iff, may_iff, decide_eq_true_eq, Bool.and_eq_true, Bool.not_eq_true', Bool.false_eq_true, true_iff, iff_true, false_iff, iff_false, decide_eq_false_iff_not]
    omega
theorem vcmay_2 : VD (T hold.Φ cMay.roms [cRight03]) (st0 cMay) wmay_2 := by
  intro ρ kn hp
  have hF : ρ.z.F = hold.Φ := kn.F
  simp only [h_nil, h_cons, d_le, d_eq, d_not, d_var, d_lit, d_cel, d_leq, d_fn, d_and, d_iff, IE.den, LE.den, AL.den, lenV, true_and, and_true, hF, pb1, pb2, pb3, pb4, pb5, pb6, fits_iff, may_iff, decide_eq_true_eq] at hp
  obtain ⟨p1, p2, p3, p4, p5⟩ := hp
  refine all_cons (show (ρ.z.F.b 2 [.int .i64 (ρ.i .i64 1), .int .i64 (ρ.i .i64 2), .int .i64 (ρ.i .i64 3)]) = ((decide ((0 : Int) ≤ (ρ.i .i64 3))) && (decide ((ρ.i .i64 3) ≤ (5 : Int)))) from ?_) (all_nil)
  all_goals try simp only [hF, pb1, pb2, pb3, pb4, pb5, pb6, fits_iff, may_iff, decide_eq_true_eq]
  all_goals first | omega | skip
  all_goals
    apply beq_of
    simp only [fits_iff, may_iff, decide_eq_true_eq, Bool.and_eq_true, Bool.not_eq_true', Bool.false_eq_true, true_iff, iff_true, false_iff, iff_false, decide_eq_false_iff_not]
    omega
theorem vcmay_3 : VD (T hold.Φ cMay.roms [cRight03]) (st0 cMay) wmay_3 := by
  intro ρ kn hp
  have hF : ρ.z.F = hold.Φ := kn.F
  simp only [h_nil, h_cons, d_le, d_eq, d_not, d_var, d_lit, d_cel, d_leq, d_fn, d_and, d_iff, IE.den, LE.den, AL.den, lenV, true_and, and_true, hF, pb1, pb2, pb3, pb4, pb5, pb6, fits_iff, may_iff, decide_eq_true_eq] at hp
  obtain ⟨p1, p2, p3, p4⟩ := hp
  refine all_cons (show (ρ.z.F.b 2 [.int .i64 (ρ.i .i64 1), .int .i64 (ρ.i .i64 2), .int .i64 (ρ.i .i64 3)]) = false from ?_) (all_nil)
  all_goals try simp only [hF, pb1, pb2, pb3, pb4, pb5, pb6, fits_iff, may_iff, decide_eq_true_eq]
  all_goals first | omega | skip
  all_goals
    apply beq_of
    simp only [fits_iff, may_iff, decide_eq_true_eq, Bool.and_eq_true, Bool.not_eq_true', Bool.false_eq_true, true_iff, iff_true, false_iff, iff_false, decide_eq_false_iff_not]
    omega
theorem vcmay_4 : VD (T hold.Φ cMay.roms [cRight03]) (st0 cMay) wmay_4 := by
  intro ρ kn hp
  have hF : ρ.z.F = hold.Φ := kn.F
  simp only [h_nil, h_cons, d_le, d_eq, d_not, d_var, d_lit, d_cel, d_leq, d_fn, d_and, d_iff, IE.den, LE.den, AL.den, lenV, true_and, and_true, hF, pb1, pb2, pb3, pb4, pb5, pb6, fits_iff, may_iff, decide_eq_true_eq] at hp
  obtain ⟨p1, p2, p3⟩ := hp
  refine all_cons (show (ρ.z.F.b 2 [.int .i64 (ρ.i .i64 1), .int .i64 (ρ.i .i64 2), .int .i64 (ρ.i .i64 3)]) = false from ?_) (all_nil)
  all_goals try simp only [hF, pb1, pb2, pb3, pb4, pb5, pb6, fits_iff, may_iff, decide_eq_true_eq]
  all_goals first | omega | skip
  all_goals
    apply beq_of
    simp only [fits_iff, may_iff, decide_eq_true_eq, Bool.and_eq_true, Bool.not_eq_true', Bool.false_eq_true, true_iff, iff_true, false_iff, iff_false, decide_eq_false_iff_not]
    omega
theorem vcmay_5 : VD (T hold.Φ cMay.roms [cRight03]) (st0 cMay) wmay_5 := by
  intro ρ kn hp
  have hF : ρ.z.F = hold.Φ := kn.F
  simp only [h_nil, h_cons, d_le, d_eq, d_not, d_var, d_lit, d_cel, d_leq, d_fn, d_and, d_iff, IE.den, LE.den, AL.den, lenV, true_and, and_true, hF, pb1, pb2, pb3, pb4, pb5, pb6, fits_iff, may_iff, decide_eq_true_eq] at hp
  have p1 := hp
  refine all_cons (show (ρ.z.F.b 2 [.int .i64 (ρ.i .i64 1), .int .i64 (ρ.i .i64 2), .int .i64 (ρ.i .i64 3)]) = false from ?_) (all_nil)
  all_goals try simp only [hF, pb1, pb2, pb3, pb4, pb5, pb6, fits_iff, may_iff, decide_eq_true_eq]
  all_goals first | omega | skip
  all_goals
    apply beq_of
    simp only [fits_iff, may_iff, decide_eq_true_eq, Bool.and_eq_true, Bool.not_eq_true', Bool.false_eq_true, true_iff, iff_true, false_iff, iff_false, decide_eq_false_iff_not]
    omega
theorem told_may : Sx.Told hold.Φ cMay := told_vw (cs := [cRight03]) (all_cons told_right03 (all_nil)) 4000 vwmay (by kernel_rfl) (by kernel_rfl) (by kernel_rfl) (post_nil rfl) (by kernel_rfl) (by kernel_rfl) (all_cons vcmay_0 (all_cons vcmay_1 (all_cons vcmay_2 (all_cons vcmay_3 (all_cons vcmay_4 (all_cons vcmay_5 (all_nil)))))))
noncomputable section
def wright1_0 : VW := (VW.done [(BE.le (IE.var .i64 3) (IE.lit 5)), (BE.le (IE.lit 1) (IE.var .i64 3)), (BE.le (IE.var .i64 2) (IE.lit 1099511627776)), (BE.le (IE.lit 1) (IE.var .i64 2)), (BE.le (IE.var .i64 1) (IE.lit 255)), (BE.le (IE.lit 0) (IE.var .i64 1)), (BE.lit true)] (some [(G.b (BE.fn 2 (AL.int .i64 (IE.var .i64 1) (AL.int .i64 (IE.var .i64 2) (AL.int .i64 (IE.var .i64 3) AL.nil)))) (BE.lit true))]))
def wright1_1 : VW := (VW.done [(BE.not (BE.le (IE.var .i64 3) (IE.lit 5))), (BE.le (IE.lit 1) (IE.var .i64 3)), (BE.le (IE.var .i64 2) (IE.lit 1099511627776)), (BE.le (IE.lit 1) (IE.var .i64 2)), (BE.le (IE.var .i64 1) (IE.lit 255)), (BE.le (IE.lit 0) (IE.var .i64 1)), (BE.lit true)] (some [(G.b (BE.fn 2 (AL.int .i64 (IE.var .i64 1) (AL.int .i64 (IE.var .i64 2) (AL.int .i64 (IE.var .i64 3) AL.nil)))) (BE.lit false))]))
def wright1_2 : VW := (VW.done [(BE.not (BE.le (IE.lit 1) (IE.var .i64 3))), (BE.le (IE.var .i64 2) (IE.lit 1099511627776)), (BE.le (IE.lit 1) (IE.var .i64 2)), (BE.le (IE.var .i64 1) (IE.lit 255)), (BE.le (IE.lit 0) (IE.var .i64 1)), (BE.lit true)] (some [(G.b (BE.fn 2 (AL.int .i64 (IE.var .i64 1) (AL.int .i64 (IE.var .i64 2) (AL.int .i64 (IE.var .i64 3) AL.nil)))) (BE.lit false))]))
def wright1_3 : VW := (VW.done [(BE.not (BE.le (IE.var .i64 2) (IE.lit 1099511627776))), (BE.le (IE.lit 1) (IE.var .i64 2)), (BE.le (IE.var .i64 1) (IE.lit 255)), (BE.le (IE.lit 0) (IE.var .i64 1)), (BE.lit true)] (some [(G.b (BE.fn 2 (AL.int .i64 (IE.var .i64 1) (AL.int .i64 (IE.var .i64 2) (AL.int .i64 (IE.var .i64 3) AL.nil)))) (BE.lit false))]))
def wright1_4 : VW := (VW.done [(BE.not (BE.le (IE.lit 1) (IE.var .i64 2))), (BE.le (IE.var .i64 1) (IE.lit 255)), (BE.le (IE.lit 0) (IE.var .i64 1)), (BE.lit true)] (some [(G.b (BE.fn 2 (AL.int .i64 (IE.var .i64 1) (AL.int .i64 (IE.var .i64 2) (AL.int .i64 (IE.var .i64 3) AL.nil)))) (BE.lit false))]))
def wright1_5 : VW := (VW.done [(BE.not (BE.le (IE.var .i64 1) (IE.lit 255))), (BE.le (IE.lit 0) (IE.var .i64 1)), (BE.lit true)] (some [(G.b (BE.fn 2 (AL.int .i64 (IE.var .i64 1) (AL.int .i64 (IE.var .i64 2) (AL.int .i64 (IE.var .i64 3) AL.nil)))) (BE.lit false))]))
def wright1_6 : VW := (VW.done [(BE.not (BE.le (IE.lit 0) (IE.var .i64 1))), (BE.lit true)] (some [(G.b (BE.fn 2 (AL.int .i64 (IE.var .i64 1) (AL.int .i64 (IE.var .i64 2) (AL.int .i64 (IE.var .i64 3) AL.nil)))) (BE.lit false))]))
def vwright1 : List VW := [wright1_0, wright1_1, wright1_2, wright1_3, wright1_4, wright1_5, wright1_6]
end
theorem vcright1_0 : VD (T hold.Φ cRight1.roms []) (st0 cRight1) wright1_0 := by
  intro ρ kn hp
  have hF : ρ.z.F = hold.Φ := kn.F
  simp only [h_nil, h_cons, d_le, d_eq, d_not, d_var, d_lit, d_cel, d_leq, d_fn, d_and, d_iff, IE.den, LE.den, AL.den, lenV, true_and, and_true, hF, pb1, pb2, pb3, pb4, pb5, pb6, fits_iff, may_iff, decide_eq_true_eq] at hp
  obtain ⟨p1, p2, p3, p4, p5, p6⟩ := hp
  refine all_cons (show (ρ.z.F.b 2 [.int .i64 (ρ.i .i64 1), .int .i64 (ρ.i .i64 2), .int .i64 (ρ.i .i64 3)]) = true from ?_) (all_nil)
  all_goals try simp only [hF, pb1, pb2, pb3, pb4, pb5, pb6, fits_iff, may_iff, decide_eq_true_eq]
  all_goals first | omega | skip
  all_goals
    apply beq_of
    simp only [fits_iff, may_iff, decide_eq_true_eq, Bool.and_eq_true, Bool.not_eq_true', Bool.false_eq_true, true_iff, iff_true, false_iff, iff_false, decide_eq_false_iff_not]
    omega
theorem vcright1_1 : VD (T hold.Φ cRight1.roms []) (st0 cRight1) wright1_1 := by
  intro ρ kn hp
  have hF : ρ.z.F = hold.Φ := kn.F
  simp only [h_nil, h_cons, d_le, d_eq, d_not, d_var, d_lit, d_cel, d_leq, d_fn, d_and, d_iff, IE.den, LE.den, AL.den, lenV, true_and, and_true, hF, pb1, pb2, pb3, pb4, pb5, pb6, fits_iff, may_iff, decide_eq_true_eq] at hp
  obtain ⟨p1, p2, p3, p4, p5, p6⟩ := hp
  refine all_cons (show (ρ.z.F.b 2 [.int .i64 (ρ.i .i64 1), .int .i64 (ρ.i .i64 2), .int .i64 (ρ.i .i64 3)]) = false from ?_) (all_nil)
  all_goals try simp only [hF, pb1, pb2, pb3, pb4, pb5, pb6, fits_iff, may_iff, decide_eq_true_eq]
  all_goals first | omega | skip
  all_goals
    apply beq_of
    simp only [fits_iff, may_iff, decide_eq_true_eq, Bool.and_eq_true, Bool.not_eq_true', Bool.false_eq_true, true_iff, iff_true, false_iff, iff_false, decide_eq_false_iff_not]
    omega
theorem vcright1_2 : VD (T hold.Φ cRight1.roms []) (st0 cRight1) wright1_2 := by
  intro ρ kn hp
  have hF : ρ.z.F = hold.Φ := kn.F
  simp only [h_nil, h_cons, d_le, d_eq, d_not, d_var, d_lit, d_cel, d_leq, d_fn, d_and, d_iff, IE.den, LE.den, AL.den, lenV, true_and, and_true, hF, pb1, pb2, pb3, pb4, pb5, pb6, fits_iff, may_iff, decide_eq_true_eq] at hp
  obtain ⟨p1, p2, p3, p4, p5⟩ := hp
  refine all_cons (show (ρ.z.F.b 2 [.int .i64 (ρ.i .i64 1), .int .i64 (ρ.i .i64 2), .int .i64 (ρ.i .i64 3)]) = false from ?_) (all_nil)
  all_goals try simp only [hF, pb1, pb2, pb3, pb4, pb5, pb6, fits_iff, may_iff, decide_eq_true_eq]
  all_goals first | omega | skip
  all_goals
    apply beq_of
    simp only [fits_iff, may_iff, decide_eq_true_eq, Bool.and_eq_true, Bool.not_eq_true', Bool.false_eq_true, true_iff, iff_true, false_iff, iff_false, decide_eq_false_iff_not]
    omega
theorem vcright1_3 : VD (T hold.Φ cRight1.roms []) (st0 cRight1) wright1_3 := by
  intro ρ kn hp
  have hF : ρ.z.F = hold.Φ := kn.F
  simp only [h_nil, h_cons, d_le, d_eq, d_not, d_var, d_lit, d_cel, d_leq, d_fn, d_and, d_iff, IE.den, LE.den, AL.den, lenV, true_and, and_true, hF, pb1, pb2, pb3, pb4, pb5, pb6, fits_iff, may_iff, decide_eq_true_eq] at hp
  obtain ⟨p1, p2, p3, p4⟩ := hp
  refine all_cons (show (ρ.z.F.b 2 [.int .i64 (ρ.i .i64 1), .int .i64 (ρ.i .i64 2), .int .i64 (ρ.i .i64 3)]) = false from ?_) (all_nil)
  all_goals try simp only [hF, pb1, pb2, pb3, pb4, pb5, pb6, fits_iff, may_iff, decide_eq_true_eq]
  all_goals first | omega | skip
  all_goals
    apply beq_of
    simp only [fits_iff, may_iff, decide_eq_true_eq, Bool.and_eq_true, Bool.not_eq_true', Bool.false_eq_true, true_iff, iff_true, false_iff, iff_false, decide_eq_false_iff_not]
    omega
theorem vcright1_4 : VD (T hold.Φ cRight1.roms []) (st0 cRight1) wright1_4 := by
  intro ρ kn hp
  have hF : ρ.z.F = hold.Φ := kn.F
  simp only [h_nil, h_cons, d_le, d_eq, d_not, d_var, d_lit, d_cel, d_leq, d_fn, d_and, d_iff, IE.den, LE.den, AL.den, lenV, true_and, and_true, hF, pb1, pb2, pb3, pb4, pb5, pb6, fits_iff, may_iff, decide_eq_true_eq] at hp
  obtain ⟨p1, p2, p3⟩ := hp
  refine all_cons (show (ρ.z.F.b 2 [.int .i64 (ρ.i .i64 1), .int .i64 (ρ.i .i64 2), .int .i64 (ρ.i .i64 3)]) = false from ?_) (all_nil)
  all_goals try simp only [hF, pb1, pb2, pb3, pb4, pb5, pb6, fits_iff, may_iff, decide_eq_true_eq]
  all_goals first | omega | skip
  all_goals
    apply beq_of
    simp only [fits_iff, may_iff, decide_eq_true_eq, Bool.and_eq_true, Bool.not_eq_true', Bool.false_eq_true, true_iff, iff_true, false_iff, iff_false, decide_eq_false_iff_not]
    omega
theorem vcright1_5 : VD (T hold.Φ cRight1.roms []) (st0 cRight1) wright1_5 := by
  intro ρ kn hp
  have hF : ρ.z.F = hold.Φ := kn.F
  simp only [h_nil, h_cons, d_le, d_eq, d_not, d_var, d_lit, d_cel, d_leq, d_fn, d_and, d_iff, IE.den, LE.den, AL.den, lenV, true_and, and_true, hF, pb1, pb2, pb3, pb4, pb5, pb6, fits_iff, may_iff, decide_eq_true_eq] at hp
  obtain ⟨p1, p2⟩ := hp
  refine all_cons (show (ρ.z.F.b 2 [.int .i64 (ρ.i .i64 1), .int .i64 (ρ.i .i64 2), .int .i64 (ρ.i .i64 3)]) = false from ?_) (all_nil)
  all_goals try simp only [hF, pb1, pb2, pb3, pb4, pb5, pb6, fits_iff, may_iff, decide_eq_true_eq]
  all_goals first | omega | skip
  all_goals
    apply beq_of
    simp only [fits_iff, may_iff, decide_eq_true_eq, Bool.and_eq_true, Bool.not_eq_true', Bool.false_eq_true, true_iff, iff_true, false_iff, iff_false, decide_eq_false_iff_not]
    omega
theorem vcright1_6 : VD (T hold.Φ cRight1.roms []) (st0 cRight1) wright1_6 := by
  intro ρ kn hp
  have hF : ρ.z.F = hold.Φ := kn.F
  simp only [h_nil, h_cons, d_le, d_eq, d_not, d_var, d_lit, d_cel, d_leq, d_fn, d_and, d_iff, IE.den, LE.den, AL.den, lenV, true_and, and_true, hF, pb1, pb2, pb3, pb4, pb5, pb6, fits_iff, may_iff, decide_eq_true_eq] at hp
  have p1 := hp
  refine all_cons (show (ρ.z.F.b 2 [.int .i64 (ρ.i .i64 1), .int .i64 (ρ.i .i64 2), .int .i64 (ρ.i .i64 3)]) = false from ?_) (all_nil)
  all_goals try simp only [hF, pb1, pb2, pb3, pb4, pb5, pb6, fits_iff, may_iff, decide_eq_true_eq]
  all_goals first | omega | skip
  all_goals
    apply beq_of
    simp only [fits_iff, may_iff, decide_eq_true_eq, Bool.and_eq_true, Bool.not_eq_true', Bool.false_eq_true, true_iff, iff_true, false_iff, iff_false, decide_eq_false_iff_not]
    omega
theorem told_right1 : Sx.Told hold.Φ cRight1 := told_vw (cs := []) (all_nil) 4000 vwright1 (by kernel_rfl) (by kernel_rfl) (by kernel_rfl) (post_nil rfl) (by kernel_rfl) (by kernel_rfl) (all_cons vcright1_0 (all_cons vcright1_1 (all_cons vcright1_2 (all_cons vcright1_3 (all_cons vcright1_4 (all_cons vcright1_5 (all_cons vcright1_6 (all_nil))))))))
noncomputable section
def ttog031 : Cfg := { top := ⟨83, over (opqS 10000 26) [(0, (SV.rom 0 (IE.lit 0) (IE.len (LE.rom 0)) none)), (3, (SV.int .i64 (IE.var .i64 1000)))], ogt (loopTodo (bodyOf (T hold.Φ [] []) 83) 0), [], false, none⟩, rest := [], heap := [], next := 1, pc := .lit true :: ([] ++ [(BE.le (IE.lit 0) (IE.var .i64 1000)), (BE.le (IE.var .i64 1000) (IE.len (LE.rom 0)))]) }
def ttog032 : Cfg := { top := ⟨83, over (opqS 10000 26) [(0, (SV.rom 0 (IE.lit 0) (IE.len (LE.rom 0)) none)), (3, (SV.int .i64 (IE.var .i64 1000))), (4, (SV.int .i64 (IE.var .i64 1001)))], ogt (loopTodo (bodyOf (T hold.Φ [] []) 83) 1), [], false, none⟩, rest := [], heap := [], next := 1, pc := .lit true :: ([] ++ [(BE.not (BE.le (IE.len (LE.rom 0)) (IE.var .i64 1000))), (BE.le (IE.var .i64 1000) (IE.len (LE.rom 0))), (BE.le (IE.lit 0) (IE.var .i64 1001)), (BE.le (IE.var .i64 1001) (IE.var .i64 1000))]) }
def tmtog03 : List (Nat × Cfg) := [(0, startF 83 cTog03.pat [.lit true]), (1, ttog031), (2, ttog032)]
def seltog03 : Sel := [(83, 1, 0, 1), (83, 2, 0, 2)]
def wtog030_0 : VW := (VW.cut 1 [(BE.lit true)] (Sx.Sub.mk [(.i64, (1000, (IE.lit 0)))] [] [] [] [] []))
def vwtog030 : List VW := [wtog030_0]
def wtog031_0 : VW := (VW.done [(BE.le (IE.len (LE.rom 0)) (IE.var .i64 1000)), (BE.lit true), (BE.le (IE.lit 0) (IE.var .i64 1000)), (BE.le (IE.var .i64 1000) (IE.len (LE.rom 0)))] (some [(G.b (BE.fn 3 (AL.lst (LE.rom 0) AL.nil)) (BE.lit true))]))
def wtog031_1 : VW := (VW.cut 2 [(BE.not (BE.le (IE.len (LE.rom 0)) (IE.var .i64 1000))), (BE.lit true), (BE.le (IE.lit 0) (IE.var .i64 1000)), (BE.le (IE.var .i64 1000) (IE.len (LE.rom 0)))] (Sx.Sub.mk [(.i64, (1001, (IE.lit 0))), (.i64, (1000, (IE.var .i64 1000)))] [] [] [] [] []))
def vwtog031 : List VW := [wtog031_0, wtog031_1]
def wtog032_0 : VW := (VW.cut 1 [(BE.le (IE.var .i64 1000) (IE.var .i64 1001)), (BE.lit true), (BE.not (BE.le (IE.len (LE.rom 0)) (IE.var .i64 1000))), (BE.le (IE.var .i64 1000) (IE.len (LE.rom 0))), (BE.le (IE.lit 0) (IE.var .i64 1001)), (BE.le (IE.var .i64 1001) (IE.var .i64 1000))] (Sx.Sub.mk [(.i64, (1000, (IE.add (IE.var .i64 1000) (IE.lit 1))))] [] [] [] [] []))
def wtog032_1 : VW := (VW.cut 2 [(BE.fn 1 (AL.int .i64 (IE.cel .i64 (LE.rom 0) (IE.var .i64 1000) 0) (AL.int .i64 (IE.cel .i64 (LE.rom 0) (IE.var .i64 1001) 0) AL.nil))), (BE.not (BE.le (IE.var .i64 1000) (IE.var .i64 1001))), (BE.lit true), (BE.not (BE.le (IE.len (LE.rom 0)) (IE.var .i64 1000))), (BE.le (IE.var .i64 1000) (IE.len (LE.rom 0))), (BE.le (IE.lit 0) (IE.var .i64 1001)), (BE.le (IE.var .i64 1001) (IE.var .i64 1000))] (Sx.Sub.mk [(.i64, (1001, (IE.add (IE.var .i64 1001) (IE.lit 1)))), (.i64, (1000, (IE.var .i64 1000)))] [] [] [] [] []))
def wtog032_2 : VW := (VW.done [(BE.not (BE.fn 1 (AL.int .i64 (IE.cel .i64 (LE.rom 0) (IE.var .i64 1000) 0) (AL.int .i64 (IE.cel .i64 (LE.rom 0) (IE.var .i64 1001) 0) AL.nil)))), (BE.not (BE.le (IE.var .i64 1000) (IE.var .i64 1001))), (BE.lit true), (BE.not (BE.le (IE.len (LE.rom 0)) (IE.var .i64 1000))), (BE.le (IE.var .i64 1000) (IE.len (LE.rom 0))), (BE.le (IE.lit 0) (IE.var .i64 1001)), (BE.le (IE.var .i64 1001) (IE.var .i64 1000))] (some [(G.b (BE.fn 3 (AL.lst (LE.rom 0) AL.nil)) (BE.lit false))]))
def vwtog032 : List VW := [wtog032_0, wtog032_1, wtog032_2]
def vwtog03 : Nat → List VW
  | 0 => vwtog030
  | 1 => vwtog031
  | 2 => vwtog032
  | _ => []
end
def invtog03 : Nat → Lt → Prop
  | 1, l => togN (l.z.rl 0) 0 (l.i .i64 1000).toNat = true
  | 2, l => togN (l.z.rl 0) 0 (l.i .i64 1000).toNat = true ∧ fitsAll (l.z.rl 0) 0 (atI (l.z.rl 0) (l.i .i64 1000).toNat 0) (l.i .i64 1001).toNat = true
  | _, _ => True
def mstog03 : Nat → Lt → Nat
  | 0, l => ((l.z.rl 0).length + 1) * ((l.z.rl 0).length + 2) + 1
  | 1, l => ((l.z.rl 0).length - (l.i .i64 1000).toNat) * ((l.z.rl 0).length + 2)
  | 2, l => ((l.z.rl 0).length - (l.i .i64 1000).toNat - 1) * ((l.z.rl 0).length + 2) + ((l.z.rl 0).length - (l.i .i64 1001).toNat) + 1
  | _, _ => 0
theorem vctog030_0 : VC (T hold.Φ cTog03.roms [cFits03]) invtog03 mstog03 0 (startF 83 cTog03.pat [.lit true]) wtog030_0 := by
  intro ρ kn hi hp
  have hF : ρ.z.F = hold.Φ := kn.F
  simp only [h_nil, h_cons, d_le, d_eq, d_not, d_var, d_lit, d_cel, d_leq, d_fn, d_and, d_iff, IE.den, LE.den, AL.den, lenV, true_and, and_true, hF, pb1, pb3] at hp
  refine (show (togN (ρ.z.rl 0) 0 (0 : Int).toNat = true) ∧ ((((ρ.z.rl 0).length - (0 : Int).toNat) * ((ρ.z.rl 0).length + 2) : Nat) < ((ρ.z.rl 0).length + 1) * ((ρ.z.rl 0).length + 2) + 1) from ?_)
  exact ⟨rfl, by simp; exact Nat.lt_succ_of_le (Nat.mul_le_mul (by omega) (Nat.le_refl _))⟩
theorem vctog031_0 : VC (T hold.Φ cTog03.roms [cFits03]) invtog03 mstog03 1 ttog031 wtog031_0 := by
  intro ρ kn hi hp
  have hi : togN (ρ.z.rl 0) 0 (ρ.i .i64 1000).toNat = true := hi
  have hF : ρ.z.F = hold.Φ := kn.F
  simp only [h_nil, h_cons, d_le, d_eq, d_not, d_var, d_lit, d_cel, d_leq, d_fn, d_and, d_iff, IE.den, LE.den, AL.den, lenV, true_and, and_true, hF, pb1, pb3] at hp
  obtain ⟨p1, p2, p3⟩ := hp
  refine all_cons (show (ρ.z.F.b 3 [.lst (ρ.z.rl 0)]) = true from ?_) (all_nil)
  all_goals try simp only [hF, pb1, pb3]
  rw [show (ρ.z.rl 0).length = (ρ.i .i64 1000).toNat by omega]; exact hi
theorem vctog031_1 : VC (T hold.Φ cTog03.roms [cFits03]) invtog03 mstog03 1 ttog031 wtog031_1 := by
  intro ρ kn hi hp
  have hi : togN (ρ.z.rl 0) 0 (ρ.i .i64 1000).toNat = true := hi
  have hF : ρ.z.F = hold.Φ := kn.F
  simp only [h_nil, h_cons, d_le, d_eq, d_not, d_var, d_lit, d_cel, d_leq, d_fn, d_and, d_iff, IE.den, LE.den, AL.den, lenV, true_and, and_true, hF, pb1, pb3] at hp
  obtain ⟨p1, p2, p3⟩ := hp
  refine (show (togN (ρ.z.rl 0) 0 (ρ.i .i64 1000).toNat = true ∧ fitsAll (ρ.z.rl 0) 0 (atI (ρ.z.rl 0) (ρ.i .i64 1000).toNat 0) (0 : Int).toNat = true) ∧ ((((ρ.z.rl 0).length - (ρ.i .i64 1000).toNat - 1) * ((ρ.z.rl 0).length + 2) + ((ρ.z.rl 0).length - (0 : Int).toNat) + 1 : Nat) < ((ρ.z.rl 0).length - (ρ.i .i64 1000).toNat) * ((ρ.z.rl 0).length + 2)) from ?_)
  refine ⟨⟨hi, rfl⟩, ?_⟩
  have e : (ρ.z.rl 0).length - (ρ.i .i64 1000).toNat = ((ρ.z.rl 0).length - (ρ.i .i64 1000).toNat - 1) + 1 := by omega
  rw [e, Nat.add_mul, Nat.add_sub_cancel]
  simp; omega
theorem vctog032_0 : VC (T hold.Φ cTog03.roms [cFits03]) invtog03 mstog03 2 ttog032 wtog032_0 := by
  intro ρ kn hi hp
  have hi : togN (ρ.z.rl 0) 0 (ρ.i .i64 1000).toNat = true ∧ fitsAll (ρ.z.rl 0) 0 (atI (ρ.z.rl 0) (ρ.i .i64 1000).toNat 0) (ρ.i .i64 1001).toNat = true := hi
  have hF : ρ.z.F = hold.Φ := kn.F
  simp only [h_nil, h_cons, d_le, d_eq, d_not, d_var, d_lit, d_cel, d_leq, d_fn, d_and, d_iff, IE.den, LE.den, AL.den, lenV, true_and, and_true, hF, pb1, pb3] at hp
  obtain ⟨p1, p2, p3, p4, p5⟩ := hp
  refine (show (togN (ρ.z.rl 0) 0 ((ρ.i .i64 1000) + (1 : Int)).toNat = true) ∧ ((((ρ.z.rl 0).length - ((ρ.i .i64 1000) + (1 : Int)).toNat) * ((ρ.z.rl 0).length + 2) : Nat) < ((ρ.z.rl 0).length - (ρ.i .i64 1000).toNat - 1) * ((ρ.z.rl 0).length + 2) + ((ρ.z.rl 0).length - (ρ.i .i64 1001).toNat) + 1) from ?_)
  refine ⟨?_, ?_⟩
  · rw [at_s (by omega), togN, hi.1, Bool.true_and, show (ρ.i .i64 1000).toNat = (ρ.i .i64 1001).toNat by omega]
    have := hi.2
    rw [show (ρ.i .i64 1000).toNat = (ρ.i .i64 1001).toNat by omega] at this
    exact this
  · rw [at_s (by omega), Nat.sub_add_eq]
    omega
theorem vctog032_1 : VC (T hold.Φ cTog03.roms [cFits03]) invtog03 mstog03 2 ttog032 wtog032_1 := by
  intro ρ kn hi hp
  have hi : togN (ρ.z.rl 0) 0 (ρ.i .i64 1000).toNat = true ∧ fitsAll (ρ.z.rl 0) 0 (atI (ρ.z.rl 0) (ρ.i .i64 1000).toNat 0) (ρ.i .i64 1001).toNat = true := hi
  have hF : ρ.z.F = hold.Φ := kn.F
  simp only [h_nil, h_cons, d_le, d_eq, d_not, d_var, d_lit, d_cel, d_leq, d_fn, d_and, d_iff, IE.den, LE.den, AL.den, lenV, true_and, and_true, hF, pb1, pb3] at hp
  obtain ⟨p1, p2, p3, p4, p5, p6⟩ := hp
  refine (show (togN (ρ.z.rl 0) 0 (ρ.i .i64 1000).toNat = true ∧ fitsAll (ρ.z.rl 0) 0 (atI (ρ.z.rl 0) (ρ.i .i64 1000).toNat 0) ((ρ.i .i64 1001) + (1 : Int)).toNat = true) ∧ ((((ρ.z.rl 0).length - (ρ.i .i64 1000).toNat - 1) * ((ρ.z.rl 0).length + 2) + ((ρ.z.rl 0).length - ((ρ.i .i64 1001) + (1 : Int)).toNat) + 1 : Nat) < ((ρ.z.rl 0).length - (ρ.i .i64 1000).toNat - 1) * ((ρ.z.rl 0).length + 2) + ((ρ.z.rl 0).length - (ρ.i .i64 1001).toNat) + 1) from ?_)
  refine ⟨⟨hi.1, ?_⟩, by rw [at_s (by omega)]; omega⟩
  rw [at_s (by omega), fitsAll, hi.2, Bool.true_and]
  rw [at_z (by omega), at_z (by omega)] at p1
  exact p1
theorem vctog032_2 : VC (T hold.Φ cTog03.roms [cFits03]) invtog03 mstog03 2 ttog032 wtog032_2 := by
  intro ρ kn hi hp
  have hi : togN (ρ.z.rl 0) 0 (ρ.i .i64 1000).toNat = true ∧ fitsAll (ρ.z.rl 0) 0 (atI (ρ.z.rl 0) (ρ.i .i64 1000).toNat 0) (ρ.i .i64 1001).toNat = true := hi
  have hF : ρ.z.F = hold.Φ := kn.F
  simp only [h_nil, h_cons, d_le, d_eq, d_not, d_var, d_lit, d_cel, d_leq, d_fn, d_and, d_iff, IE.den, LE.den, AL.den, lenV, true_and, and_true, hF, pb1, pb3] at hp
  obtain ⟨p1, p2, p3, p4, p5, p6⟩ := hp
  refine all_cons (show (ρ.z.F.b 3 [.lst (ρ.z.rl 0)]) = false from ?_) (all_nil)
  all_goals try simp only [hF, pb1, pb3]
  rw [at_z (by omega), at_z (by omega)] at p1
  refine Bool.eq_false_iff.2 fun hh => p1 (tog_at (n := (ρ.z.rl 0).length) (by omega) (by omega) hh)
theorem vcstog030 : ∀ v ∈ vwtog03 0, VC (T hold.Φ cTog03.roms [cFits03]) invtog03 mstog03 0 (startF 83 cTog03.pat [.lit true]) v := all_cons vctog030_0 (all_nil)
theorem oktog030 : cfgOk (startF 83 cTog03.pat [.lit true]) = true := by kernel_rfl
theorem sgtog030 : segL cTog03.roms cTog03 (seg (T hold.Φ cTog03.roms [cFits03]) seltog03 600 tmtog03 (startF 83 cTog03.pat [.lit true])) = (true, codesR tmtog03 (views (seg (T hold.Φ cTog03.roms [cFits03]) seltog03 600 tmtog03 (startF 83 cTog03.pat [.lit true]))), vwtog03 0) := by kernel_rfl
theorem vcstog031 : ∀ v ∈ vwtog03 1, VC (T hold.Φ cTog03.roms [cFits03]) invtog03 mstog03 1 ttog031 v := all_cons vctog031_0 (all_cons vctog031_1 (all_nil))
theorem oktog031 : cfgOk ttog031 = true := by kernel_rfl
theorem sgtog031 : segL cTog03.roms cTog03 (seg (T hold.Φ cTog03.roms [cFits03]) seltog03 600 tmtog03 ttog031) = (true, codesR tmtog03 (views (seg (T hold.Φ cTog03.roms [cFits03]) seltog03 600 tmtog03 ttog031)), vwtog03 1) := by kernel_rfl
theorem vcstog032 : ∀ v ∈ vwtog03 2, VC (T hold.Φ cTog03.roms [cFits03]) invtog03 mstog03 2 ttog032 v := all_cons vctog032_0 (all_cons vctog032_1 (all_cons vctog032_2 (all_nil)))
theorem oktog032 : cfgOk ttog032 = true := by kernel_rfl
theorem sgtog032 : segL cTog03.roms cTog03 (seg (T hold.Φ cTog03.roms [cFits03]) seltog03 600 tmtog03 ttog032) = (true, codesR tmtog03 (views (seg (T hold.Φ cTog03.roms [cFits03]) seltog03 600 tmtog03 ttog032)), vwtog03 2) := by kernel_rfl
theorem lntog030 : ∀ ρ, Known (T hold.Φ cTog03.roms [cFits03]) (startF 83 cTog03.pat [.lit true]) ρ → invtog03 0 ρ.lt → Holds ρ (leanOf (Cfg.pc (startF 83 cTog03.pat [.lit true]))) := by
  intro ρ _ _
  exact (show Holds ρ [] from fun p hp => by cases hp)
theorem lntog031 : ∀ ρ, Known (T hold.Φ cTog03.roms [cFits03]) ttog031 ρ → invtog03 1 ρ.lt → Holds ρ (leanOf (Cfg.pc ttog031)) := by
  intro ρ _ _
  exact (show Holds ρ [] from fun p hp => by cases hp)
theorem lntog032 : ∀ ρ, Known (T hold.Φ cTog03.roms [cFits03]) ttog032 ρ → invtog03 2 ρ.lt → Holds ρ (leanOf (Cfg.pc ttog032)) := by
  intro ρ _ _
  exact (show Holds ρ [] from fun p hp => by cases hp)
theorem told_tog03 : Sx.Told hold.Φ cTog03 := by
  refine told_of (cs := [cFits03]) (all_cons told_fits03 (all_nil)) (sel := seltog03) 600 tmtog03 invtog03 mstog03 vwtog03 0 (pc0 := [.lit true]) (by kernel_rfl) (by kernel_rfl) (by kernel_rfl) (post_nil rfl) ?_ ?_ ?_ rfl (fun ρ _ _ => by simp [Holds, BE.den]) (fun _ _ _ _ => trivial) ?_
  · intro k C h
    have := lk_mem h
    simp only [tmtog03, List.mem_cons, Prod.mk.injEq, List.not_mem_nil, or_false] at this
    rcases this with ⟨rfl, rfl⟩ | ⟨rfl, rfl⟩ | ⟨rfl, rfl⟩
    · exact oktog030
    · exact oktog031
    · exact oktog032
  · intro k C h
    have := lk_mem h
    simp only [tmtog03, List.mem_cons, Prod.mk.injEq, List.not_mem_nil, or_false] at this
    rcases this with ⟨rfl, rfl⟩ | ⟨rfl, rfl⟩ | ⟨rfl, rfl⟩
    · exact sgtog030
    · exact sgtog031
    · exact sgtog032
  · intro k C h
    have := lk_mem h
    simp only [tmtog03, List.mem_cons, Prod.mk.injEq, List.not_mem_nil, or_false] at this
    rcases this with ⟨rfl, rfl⟩ | ⟨rfl, rfl⟩ | ⟨rfl, rfl⟩
    · exact vcstog030
    · exact vcstog031
    · exact vcstog032
  · intro k C h
    have := lk_mem h
    simp only [tmtog03, List.mem_cons, Prod.mk.injEq, List.not_mem_nil, or_false] at this
    rcases this with ⟨rfl, rfl⟩ | ⟨rfl, rfl⟩ | ⟨rfl, rfl⟩
    · exact lntog030
    · exact lntog031
    · exact lntog032
end Go.Proofs.YteblnjgghbclpaaDoor.hold
