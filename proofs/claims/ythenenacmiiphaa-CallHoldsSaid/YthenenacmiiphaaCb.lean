/- Layer call: shapes. No condition. -/
import Derived.Test.YthenenacmiiphaaCa
set_option linter.unusedVariables false
set_option linter.unusedSimpArgs false
set_option linter.deprecated false
namespace Go.Proofs.Ythenenacmiiphaa.oct
open Go Go.Proofs.Ythenenacmiiphaa.Sx
noncomputable section
abbrev TTshp : Tab := T oct.Φ cShp.roms []
abbrev tshp0 : BE := BE.le (IE.var .i64 1) (IE.lit 64)
abbrev tshp1 : BE := BE.le (IE.lit 1) (IE.var .i64 3)
abbrev pcshp_0 : List BE := [(BE.lit true), (BE.fn 10 (AL.int .i64 (IE.var .i64 1) (AL.int .i64 (IE.var .i64 2) (AL.int .i64 (IE.var .i64 3) AL.nil))))]
abbrev pcshp_1 : List BE := ((BE.le (IE.lit 1) (IE.var .i64 1)) :: pcshp_0)
abbrev pcshp_2 : List BE := ((BE.not (BE.le (IE.lit 1) (IE.var .i64 1))) :: pcshp_0)
abbrev pcshp_3 : List BE := ((BE.le (IE.lit 1) (IE.var .i64 2)) :: pcshp_1)
abbrev pcshp_4 : List BE := ((BE.not (BE.le (IE.lit 1) (IE.var .i64 2))) :: pcshp_1)
abbrev pcshp_5 : List BE := ((BE.le (IE.lit 1) (IE.var .i64 2)) :: pcshp_2)
abbrev pcshp_6 : List BE := ((BE.not (BE.le (IE.lit 1) (IE.var .i64 2))) :: pcshp_2)
abbrev pcshp_7 : List BE := (tshp1 :: pcshp_3)
abbrev pcshp_8 : List BE := ((BE.not tshp1) :: pcshp_3)
abbrev pcshp_9 : List BE := (tshp1 :: pcshp_4)
abbrev pcshp_10 : List BE := ((BE.not tshp1) :: pcshp_4)
abbrev pcshp_11 : List BE := (tshp0 :: pcshp_7)
abbrev pcshp_12 : List BE := (tshp0 :: pcshp_8)
abbrev pcshp_13 : List BE := ((BE.le (IE.var .i64 2) (IE.lit 8)) :: pcshp_11)
def wshp_0 : VW := (VW.done ((BE.le (IE.var .i64 3) (IE.lit 4)) :: pcshp_13) (some []))
def wshp_1 : VW := (VW.done ((BE.not (BE.le (IE.var .i64 3) (IE.lit 4))) :: pcshp_13) (some [(G.i (IE.lit 0) (IE.lit 2))]))
def wshp_2 : VW := (VW.done ((BE.not (BE.le (IE.var .i64 2) (IE.lit 8))) :: pcshp_11) (some [(G.i (IE.lit 0) (IE.lit 2))]))
def wshp_3 : VW := (VW.done ((BE.not tshp0) :: pcshp_7) (some [(G.i (IE.lit 0) (IE.lit 2))]))
def wshp_4 : VW := (VW.done ((BE.le (IE.var .i64 2) (IE.lit 8)) :: pcshp_12) (some [(G.i (IE.lit 0) (IE.lit 2))]))
def wshp_5 : VW := (VW.done ((BE.not (BE.le (IE.var .i64 2) (IE.lit 8))) :: pcshp_12) (some [(G.i (IE.lit 0) (IE.lit 2))]))
def wshp_6 : VW := (VW.done ((BE.not tshp0) :: pcshp_8) (some [(G.i (IE.lit 0) (IE.lit 2))]))
def wshp_7 : VW := (VW.done (tshp0 :: pcshp_9) (some [(G.i (IE.lit 0) (IE.lit 2))]))
def wshp_8 : VW := (VW.done ((BE.not tshp0) :: pcshp_9) (some [(G.i (IE.lit 0) (IE.lit 2))]))
def wshp_9 : VW := (VW.done (tshp0 :: pcshp_10) (some [(G.i (IE.lit 0) (IE.lit 2))]))
def wshp_10 : VW := (VW.done ((BE.not tshp0) :: pcshp_10) (some [(G.i (IE.lit 0) (IE.lit 2))]))
def wshp_11 : VW := (VW.done (tshp1 :: pcshp_5) (some [(G.i (IE.lit 0) (IE.lit 2))]))
def wshp_12 : VW := (VW.done ((BE.not tshp1) :: pcshp_5) (some [(G.i (IE.lit 0) (IE.lit 2))]))
def wshp_13 : VW := (VW.done (tshp1 :: pcshp_6) (some [(G.i (IE.lit 0) (IE.lit 2))]))
def wshp_14 : VW := (VW.done ((BE.not tshp1) :: pcshp_6) (some [(G.i (IE.lit 0) (IE.lit 2))]))
def vwshp : List VW := [wshp_0, wshp_1, wshp_2, wshp_3, wshp_4, wshp_5, wshp_6, wshp_7, wshp_8, wshp_9, wshp_10, wshp_11, wshp_12, wshp_13, wshp_14]
end
theorem vcshp_0 : VD TTshp (st0 cShp) wshp_0 := by
 intro ρ kn hp
 exact all_nil
theorem vcshp_1 : VD TTshp (st0 cShp) wshp_1 := by
 intro ρ kn hp
 have hF : ρ.z.F = oct.Φ := kn.F
 simp only [h_nil, h_cons, d_le, d_eq, d_not, d_var, d_lit, d_cel, d_leq, d_fn, d_and, d_iff, IE.den, LE.den, AL.den, lenV, true_and, and_true, hF, pi2, pi3, pi4, pi5, pi6, pi7, pb10, pb11, pb12, pl7, pl9] at hp
 obtain ⟨p1, p2, p3, p4, p5, p6, p7⟩ := hp
 refine all_cons (show (0 : Int) = (2 : Int) from ?_) (all_nil)
 all_goals try simp only [hF, pi2, pi3, pi4, pi5, pi6, pi7, pb10, pb11, pb12, pl7, pl9]
 all_goals
  first
   | (rw [Bool.eq_iff_iff]; simp only [shpR, decide_eq_true_eq, Bool.false_eq_true, iff_false, false_iff]; omega)
   | (exfalso; simp only [shpR, decide_eq_true_eq, decide_eq_false_iff_not] at *; omega)
   | (exfalso; simp only [shpR, decide_eq_true_eq, decide_eq_false_iff_not, Bool.not_eq_true] at *; omega)
theorem vcshp_2 : VD TTshp (st0 cShp) wshp_2 := by
 intro ρ kn hp
 have hF : ρ.z.F = oct.Φ := kn.F
 simp only [h_nil, h_cons, d_le, d_eq, d_not, d_var, d_lit, d_cel, d_leq, d_fn, d_and, d_iff, IE.den, LE.den, AL.den, lenV, true_and, and_true, hF, pi2, pi3, pi4, pi5, pi6, pi7, pb10, pb11, pb12, pl7, pl9] at hp
 obtain ⟨p1, p2, p3, p4, p5, p6⟩ := hp
 refine all_cons (show (0 : Int) = (2 : Int) from ?_) (all_nil)
 all_goals try simp only [hF, pi2, pi3, pi4, pi5, pi6, pi7, pb10, pb11, pb12, pl7, pl9]
 all_goals
  first
   | (rw [Bool.eq_iff_iff]; simp only [shpR, decide_eq_true_eq, Bool.false_eq_true, iff_false, false_iff]; omega)
   | (exfalso; simp only [shpR, decide_eq_true_eq, decide_eq_false_iff_not] at *; omega)
   | (exfalso; simp only [shpR, decide_eq_true_eq, decide_eq_false_iff_not, Bool.not_eq_true] at *; omega)
theorem vcshp_3 : VD TTshp (st0 cShp) wshp_3 := by
 intro ρ kn hp
 have hF : ρ.z.F = oct.Φ := kn.F
 simp only [h_nil, h_cons, d_le, d_eq, d_not, d_var, d_lit, d_cel, d_leq, d_fn, d_and, d_iff, IE.den, LE.den, AL.den, lenV, true_and, and_true, hF, pi2, pi3, pi4, pi5, pi6, pi7, pb10, pb11, pb12, pl7, pl9] at hp
 obtain ⟨p1, p2, p3, p4, p5⟩ := hp
 refine all_cons (show (0 : Int) = (2 : Int) from ?_) (all_nil)
 all_goals try simp only [hF, pi2, pi3, pi4, pi5, pi6, pi7, pb10, pb11, pb12, pl7, pl9]
 all_goals
  first
   | (rw [Bool.eq_iff_iff]; simp only [shpR, decide_eq_true_eq, Bool.false_eq_true, iff_false, false_iff]; omega)
   | (exfalso; simp only [shpR, decide_eq_true_eq, decide_eq_false_iff_not] at *; omega)
   | (exfalso; simp only [shpR, decide_eq_true_eq, decide_eq_false_iff_not, Bool.not_eq_true] at *; omega)
theorem vcshp_4 : VD TTshp (st0 cShp) wshp_4 := by
 intro ρ kn hp
 have hF : ρ.z.F = oct.Φ := kn.F
 simp only [h_nil, h_cons, d_le, d_eq, d_not, d_var, d_lit, d_cel, d_leq, d_fn, d_and, d_iff, IE.den, LE.den, AL.den, lenV, true_and, and_true, hF, pi2, pi3, pi4, pi5, pi6, pi7, pb10, pb11, pb12, pl7, pl9] at hp
 obtain ⟨p1, p2, p3, p4, p5, p6⟩ := hp
 refine all_cons (show (0 : Int) = (2 : Int) from ?_) (all_nil)
 all_goals try simp only [hF, pi2, pi3, pi4, pi5, pi6, pi7, pb10, pb11, pb12, pl7, pl9]
 all_goals
  first
   | (rw [Bool.eq_iff_iff]; simp only [shpR, decide_eq_true_eq, Bool.false_eq_true, iff_false, false_iff]; omega)
   | (exfalso; simp only [shpR, decide_eq_true_eq, decide_eq_false_iff_not] at *; omega)
   | (exfalso; simp only [shpR, decide_eq_true_eq, decide_eq_false_iff_not, Bool.not_eq_true] at *; omega)
theorem vcshp_5 : VD TTshp (st0 cShp) wshp_5 := by
 intro ρ kn hp
 have hF : ρ.z.F = oct.Φ := kn.F
 simp only [h_nil, h_cons, d_le, d_eq, d_not, d_var, d_lit, d_cel, d_leq, d_fn, d_and, d_iff, IE.den, LE.den, AL.den, lenV, true_and, and_true, hF, pi2, pi3, pi4, pi5, pi6, pi7, pb10, pb11, pb12, pl7, pl9] at hp
 obtain ⟨p1, p2, p3, p4, p5, p6⟩ := hp
 refine all_cons (show (0 : Int) = (2 : Int) from ?_) (all_nil)
 all_goals try simp only [hF, pi2, pi3, pi4, pi5, pi6, pi7, pb10, pb11, pb12, pl7, pl9]
 all_goals
  first
   | (rw [Bool.eq_iff_iff]; simp only [shpR, decide_eq_true_eq, Bool.false_eq_true, iff_false, false_iff]; omega)
   | (exfalso; simp only [shpR, decide_eq_true_eq, decide_eq_false_iff_not] at *; omega)
   | (exfalso; simp only [shpR, decide_eq_true_eq, decide_eq_false_iff_not, Bool.not_eq_true] at *; omega)
theorem vcshp_6 : VD TTshp (st0 cShp) wshp_6 := by
 intro ρ kn hp
 have hF : ρ.z.F = oct.Φ := kn.F
 simp only [h_nil, h_cons, d_le, d_eq, d_not, d_var, d_lit, d_cel, d_leq, d_fn, d_and, d_iff, IE.den, LE.den, AL.den, lenV, true_and, and_true, hF, pi2, pi3, pi4, pi5, pi6, pi7, pb10, pb11, pb12, pl7, pl9] at hp
 obtain ⟨p1, p2, p3, p4, p5⟩ := hp
 refine all_cons (show (0 : Int) = (2 : Int) from ?_) (all_nil)
 all_goals try simp only [hF, pi2, pi3, pi4, pi5, pi6, pi7, pb10, pb11, pb12, pl7, pl9]
 all_goals
  first
   | (rw [Bool.eq_iff_iff]; simp only [shpR, decide_eq_true_eq, Bool.false_eq_true, iff_false, false_iff]; omega)
   | (exfalso; simp only [shpR, decide_eq_true_eq, decide_eq_false_iff_not] at *; omega)
   | (exfalso; simp only [shpR, decide_eq_true_eq, decide_eq_false_iff_not, Bool.not_eq_true] at *; omega)
theorem vcshp_7 : VD TTshp (st0 cShp) wshp_7 := by
 intro ρ kn hp
 have hF : ρ.z.F = oct.Φ := kn.F
 simp only [h_nil, h_cons, d_le, d_eq, d_not, d_var, d_lit, d_cel, d_leq, d_fn, d_and, d_iff, IE.den, LE.den, AL.den, lenV, true_and, and_true, hF, pi2, pi3, pi4, pi5, pi6, pi7, pb10, pb11, pb12, pl7, pl9] at hp
 obtain ⟨p1, p2, p3, p4, p5⟩ := hp
 refine all_cons (show (0 : Int) = (2 : Int) from ?_) (all_nil)
 all_goals try simp only [hF, pi2, pi3, pi4, pi5, pi6, pi7, pb10, pb11, pb12, pl7, pl9]
 all_goals
  first
   | (rw [Bool.eq_iff_iff]; simp only [shpR, decide_eq_true_eq, Bool.false_eq_true, iff_false, false_iff]; omega)
   | (exfalso; simp only [shpR, decide_eq_true_eq, decide_eq_false_iff_not] at *; omega)
   | (exfalso; simp only [shpR, decide_eq_true_eq, decide_eq_false_iff_not, Bool.not_eq_true] at *; omega)
theorem vcshp_8 : VD TTshp (st0 cShp) wshp_8 := by
 intro ρ kn hp
 have hF : ρ.z.F = oct.Φ := kn.F
 simp only [h_nil, h_cons, d_le, d_eq, d_not, d_var, d_lit, d_cel, d_leq, d_fn, d_and, d_iff, IE.den, LE.den, AL.den, lenV, true_and, and_true, hF, pi2, pi3, pi4, pi5, pi6, pi7, pb10, pb11, pb12, pl7, pl9] at hp
 obtain ⟨p1, p2, p3, p4, p5⟩ := hp
 refine all_cons (show (0 : Int) = (2 : Int) from ?_) (all_nil)
 all_goals try simp only [hF, pi2, pi3, pi4, pi5, pi6, pi7, pb10, pb11, pb12, pl7, pl9]
 all_goals
  first
   | (rw [Bool.eq_iff_iff]; simp only [shpR, decide_eq_true_eq, Bool.false_eq_true, iff_false, false_iff]; omega)
   | (exfalso; simp only [shpR, decide_eq_true_eq, decide_eq_false_iff_not] at *; omega)
   | (exfalso; simp only [shpR, decide_eq_true_eq, decide_eq_false_iff_not, Bool.not_eq_true] at *; omega)
theorem vcshp_9 : VD TTshp (st0 cShp) wshp_9 := by
 intro ρ kn hp
 have hF : ρ.z.F = oct.Φ := kn.F
 simp only [h_nil, h_cons, d_le, d_eq, d_not, d_var, d_lit, d_cel, d_leq, d_fn, d_and, d_iff, IE.den, LE.den, AL.den, lenV, true_and, and_true, hF, pi2, pi3, pi4, pi5, pi6, pi7, pb10, pb11, pb12, pl7, pl9] at hp
 obtain ⟨p1, p2, p3, p4, p5⟩ := hp
 refine all_cons (show (0 : Int) = (2 : Int) from ?_) (all_nil)
 all_goals try simp only [hF, pi2, pi3, pi4, pi5, pi6, pi7, pb10, pb11, pb12, pl7, pl9]
 all_goals
  first
   | (rw [Bool.eq_iff_iff]; simp only [shpR, decide_eq_true_eq, Bool.false_eq_true, iff_false, false_iff]; omega)
   | (exfalso; simp only [shpR, decide_eq_true_eq, decide_eq_false_iff_not] at *; omega)
   | (exfalso; simp only [shpR, decide_eq_true_eq, decide_eq_false_iff_not, Bool.not_eq_true] at *; omega)
theorem vcshp_10 : VD TTshp (st0 cShp) wshp_10 := by
 intro ρ kn hp
 have hF : ρ.z.F = oct.Φ := kn.F
 simp only [h_nil, h_cons, d_le, d_eq, d_not, d_var, d_lit, d_cel, d_leq, d_fn, d_and, d_iff, IE.den, LE.den, AL.den, lenV, true_and, and_true, hF, pi2, pi3, pi4, pi5, pi6, pi7, pb10, pb11, pb12, pl7, pl9] at hp
 obtain ⟨p1, p2, p3, p4, p5⟩ := hp
 refine all_cons (show (0 : Int) = (2 : Int) from ?_) (all_nil)
 all_goals try simp only [hF, pi2, pi3, pi4, pi5, pi6, pi7, pb10, pb11, pb12, pl7, pl9]
 all_goals
  first
   | (rw [Bool.eq_iff_iff]; simp only [shpR, decide_eq_true_eq, Bool.false_eq_true, iff_false, false_iff]; omega)
   | (exfalso; simp only [shpR, decide_eq_true_eq, decide_eq_false_iff_not] at *; omega)
   | (exfalso; simp only [shpR, decide_eq_true_eq, decide_eq_false_iff_not, Bool.not_eq_true] at *; omega)
theorem vcshp_11 : VD TTshp (st0 cShp) wshp_11 := by
 intro ρ kn hp
 have hF : ρ.z.F = oct.Φ := kn.F
 simp only [h_nil, h_cons, d_le, d_eq, d_not, d_var, d_lit, d_cel, d_leq, d_fn, d_and, d_iff, IE.den, LE.den, AL.den, lenV, true_and, and_true, hF, pi2, pi3, pi4, pi5, pi6, pi7, pb10, pb11, pb12, pl7, pl9] at hp
 obtain ⟨p1, p2, p3, p4⟩ := hp
 refine all_cons (show (0 : Int) = (2 : Int) from ?_) (all_nil)
 all_goals try simp only [hF, pi2, pi3, pi4, pi5, pi6, pi7, pb10, pb11, pb12, pl7, pl9]
 all_goals
  first
   | (rw [Bool.eq_iff_iff]; simp only [shpR, decide_eq_true_eq, Bool.false_eq_true, iff_false, false_iff]; omega)
   | (exfalso; simp only [shpR, decide_eq_true_eq, decide_eq_false_iff_not] at *; omega)
   | (exfalso; simp only [shpR, decide_eq_true_eq, decide_eq_false_iff_not, Bool.not_eq_true] at *; omega)
theorem vcshp_12 : VD TTshp (st0 cShp) wshp_12 := by
 intro ρ kn hp
 have hF : ρ.z.F = oct.Φ := kn.F
 simp only [h_nil, h_cons, d_le, d_eq, d_not, d_var, d_lit, d_cel, d_leq, d_fn, d_and, d_iff, IE.den, LE.den, AL.den, lenV, true_and, and_true, hF, pi2, pi3, pi4, pi5, pi6, pi7, pb10, pb11, pb12, pl7, pl9] at hp
 obtain ⟨p1, p2, p3, p4⟩ := hp
 refine all_cons (show (0 : Int) = (2 : Int) from ?_) (all_nil)
 all_goals try simp only [hF, pi2, pi3, pi4, pi5, pi6, pi7, pb10, pb11, pb12, pl7, pl9]
 all_goals
  first
   | (rw [Bool.eq_iff_iff]; simp only [shpR, decide_eq_true_eq, Bool.false_eq_true, iff_false, false_iff]; omega)
   | (exfalso; simp only [shpR, decide_eq_true_eq, decide_eq_false_iff_not] at *; omega)
   | (exfalso; simp only [shpR, decide_eq_true_eq, decide_eq_false_iff_not, Bool.not_eq_true] at *; omega)
theorem vcshp_13 : VD TTshp (st0 cShp) wshp_13 := by
 intro ρ kn hp
 have hF : ρ.z.F = oct.Φ := kn.F
 simp only [h_nil, h_cons, d_le, d_eq, d_not, d_var, d_lit, d_cel, d_leq, d_fn, d_and, d_iff, IE.den, LE.den, AL.den, lenV, true_and, and_true, hF, pi2, pi3, pi4, pi5, pi6, pi7, pb10, pb11, pb12, pl7, pl9] at hp
 obtain ⟨p1, p2, p3, p4⟩ := hp
 refine all_cons (show (0 : Int) = (2 : Int) from ?_) (all_nil)
 all_goals try simp only [hF, pi2, pi3, pi4, pi5, pi6, pi7, pb10, pb11, pb12, pl7, pl9]
 all_goals
  first
   | (rw [Bool.eq_iff_iff]; simp only [shpR, decide_eq_true_eq, Bool.false_eq_true, iff_false, false_iff]; omega)
   | (exfalso; simp only [shpR, decide_eq_true_eq, decide_eq_false_iff_not] at *; omega)
   | (exfalso; simp only [shpR, decide_eq_true_eq, decide_eq_false_iff_not, Bool.not_eq_true] at *; omega)
theorem vcshp_14 : VD TTshp (st0 cShp) wshp_14 := by
 intro ρ kn hp
 have hF : ρ.z.F = oct.Φ := kn.F
 simp only [h_nil, h_cons, d_le, d_eq, d_not, d_var, d_lit, d_cel, d_leq, d_fn, d_and, d_iff, IE.den, LE.den, AL.den, lenV, true_and, and_true, hF, pi2, pi3, pi4, pi5, pi6, pi7, pb10, pb11, pb12, pl7, pl9] at hp
 obtain ⟨p1, p2, p3, p4⟩ := hp
 refine all_cons (show (0 : Int) = (2 : Int) from ?_) (all_nil)
 all_goals try simp only [hF, pi2, pi3, pi4, pi5, pi6, pi7, pb10, pb11, pb12, pl7, pl9]
 all_goals
  first
   | (rw [Bool.eq_iff_iff]; simp only [shpR, decide_eq_true_eq, Bool.false_eq_true, iff_false, false_iff]; omega)
   | (exfalso; simp only [shpR, decide_eq_true_eq, decide_eq_false_iff_not] at *; omega)
   | (exfalso; simp only [shpR, decide_eq_true_eq, decide_eq_false_iff_not, Bool.not_eq_true] at *; omega)
theorem told_shp : Sx.Told oct.Φ cShp := told_vw (cs := []) (all_nil) 3000 vwshp (by kernel_rfl) (by kernel_rfl) (by kernel_rfl) (post_nil rfl) (by kernel_rfl) (by kernel_rfl) (all_cons vcshp_0 (all_cons vcshp_1 (all_cons vcshp_2 (all_cons vcshp_3 (all_cons vcshp_4 (all_cons vcshp_5 (all_cons vcshp_6 (all_cons vcshp_7 (all_cons vcshp_8 (all_cons vcshp_9 (all_cons vcshp_10 (all_cons vcshp_11 (all_cons vcshp_12 (all_cons vcshp_13 (all_cons vcshp_14 (all_nil))))))))))))))))
noncomputable section
abbrev TTshpn : Tab := T oct.Φ cShpN.roms []
abbrev tshpn0 : BE := BE.le (IE.var .i64 1) (IE.lit 64)
abbrev tshpn1 : BE := BE.le (IE.lit 1) (IE.var .i64 3)
abbrev pcshpn_0 : List BE := [(BE.lit true), (BE.not (BE.fn 10 (AL.int .i64 (IE.var .i64 1) (AL.int .i64 (IE.var .i64 2) (AL.int .i64 (IE.var .i64 3) AL.nil)))))]
abbrev pcshpn_1 : List BE := ((BE.le (IE.lit 1) (IE.var .i64 1)) :: pcshpn_0)
abbrev pcshpn_2 : List BE := ((BE.not (BE.le (IE.lit 1) (IE.var .i64 1))) :: pcshpn_0)
abbrev pcshpn_3 : List BE := ((BE.le (IE.lit 1) (IE.var .i64 2)) :: pcshpn_1)
abbrev pcshpn_4 : List BE := ((BE.not (BE.le (IE.lit 1) (IE.var .i64 2))) :: pcshpn_1)
abbrev pcshpn_5 : List BE := ((BE.le (IE.lit 1) (IE.var .i64 2)) :: pcshpn_2)
abbrev pcshpn_6 : List BE := ((BE.not (BE.le (IE.lit 1) (IE.var .i64 2))) :: pcshpn_2)
abbrev pcshpn_7 : List BE := (tshpn1 :: pcshpn_3)
abbrev pcshpn_8 : List BE := ((BE.not tshpn1) :: pcshpn_3)
abbrev pcshpn_9 : List BE := (tshpn1 :: pcshpn_4)
abbrev pcshpn_10 : List BE := ((BE.not tshpn1) :: pcshpn_4)
abbrev pcshpn_11 : List BE := (tshpn0 :: pcshpn_7)
abbrev pcshpn_12 : List BE := (tshpn0 :: pcshpn_8)
abbrev pcshpn_13 : List BE := ((BE.le (IE.var .i64 2) (IE.lit 8)) :: pcshpn_11)
def wshpn_0 : VW := (VW.done ((BE.le (IE.var .i64 3) (IE.lit 4)) :: pcshpn_13) (some [(G.i (IE.lit 2) (IE.lit 0))]))
def wshpn_1 : VW := (VW.done ((BE.not (BE.le (IE.var .i64 3) (IE.lit 4))) :: pcshpn_13) (some []))
def wshpn_2 : VW := (VW.done ((BE.not (BE.le (IE.var .i64 2) (IE.lit 8))) :: pcshpn_11) (some []))
def wshpn_3 : VW := (VW.done ((BE.not tshpn0) :: pcshpn_7) (some []))
def wshpn_4 : VW := (VW.done ((BE.le (IE.var .i64 2) (IE.lit 8)) :: pcshpn_12) (some []))
def wshpn_5 : VW := (VW.done ((BE.not (BE.le (IE.var .i64 2) (IE.lit 8))) :: pcshpn_12) (some []))
def wshpn_6 : VW := (VW.done ((BE.not tshpn0) :: pcshpn_8) (some []))
def wshpn_7 : VW := (VW.done (tshpn0 :: pcshpn_9) (some []))
def wshpn_8 : VW := (VW.done ((BE.not tshpn0) :: pcshpn_9) (some []))
def wshpn_9 : VW := (VW.done (tshpn0 :: pcshpn_10) (some []))
def wshpn_10 : VW := (VW.done ((BE.not tshpn0) :: pcshpn_10) (some []))
def wshpn_11 : VW := (VW.done (tshpn1 :: pcshpn_5) (some []))
def wshpn_12 : VW := (VW.done ((BE.not tshpn1) :: pcshpn_5) (some []))
def wshpn_13 : VW := (VW.done (tshpn1 :: pcshpn_6) (some []))
def wshpn_14 : VW := (VW.done ((BE.not tshpn1) :: pcshpn_6) (some []))
def vwshpn : List VW := [wshpn_0, wshpn_1, wshpn_2, wshpn_3, wshpn_4, wshpn_5, wshpn_6, wshpn_7, wshpn_8, wshpn_9, wshpn_10, wshpn_11, wshpn_12, wshpn_13, wshpn_14]
end
theorem vcshpn_0 : VD TTshpn (st0 cShpN) wshpn_0 := by
 intro ρ kn hp
 have hF : ρ.z.F = oct.Φ := kn.F
 simp only [h_nil, h_cons, d_le, d_eq, d_not, d_var, d_lit, d_cel, d_leq, d_fn, d_and, d_iff, IE.den, LE.den, AL.den, lenV, true_and, and_true, hF, pi2, pi3, pi4, pi5, pi6, pi7, pb10, pb11, pb12, pl7, pl9] at hp
 obtain ⟨p1, p2, p3, p4, p5, p6, p7⟩ := hp
 refine all_cons (show (2 : Int) = (0 : Int) from ?_) (all_nil)
 all_goals try simp only [hF, pi2, pi3, pi4, pi5, pi6, pi7, pb10, pb11, pb12, pl7, pl9]
 all_goals
  first
   | (rw [Bool.eq_iff_iff]; simp only [shpR, decide_eq_true_eq, Bool.false_eq_true, iff_false, false_iff]; omega)
   | (exfalso; simp only [shpR, decide_eq_true_eq, decide_eq_false_iff_not] at *; omega)
   | (exfalso; simp only [shpR, decide_eq_true_eq, decide_eq_false_iff_not, Bool.not_eq_true] at *; omega)
theorem vcshpn_1 : VD TTshpn (st0 cShpN) wshpn_1 := by
 intro ρ kn hp
 exact all_nil
theorem vcshpn_2 : VD TTshpn (st0 cShpN) wshpn_2 := by
 intro ρ kn hp
 exact all_nil
theorem vcshpn_3 : VD TTshpn (st0 cShpN) wshpn_3 := by
 intro ρ kn hp
 exact all_nil
theorem vcshpn_4 : VD TTshpn (st0 cShpN) wshpn_4 := by
 intro ρ kn hp
 exact all_nil
theorem vcshpn_5 : VD TTshpn (st0 cShpN) wshpn_5 := by
 intro ρ kn hp
 exact all_nil
theorem vcshpn_6 : VD TTshpn (st0 cShpN) wshpn_6 := by
 intro ρ kn hp
 exact all_nil
theorem vcshpn_7 : VD TTshpn (st0 cShpN) wshpn_7 := by
 intro ρ kn hp
 exact all_nil
theorem vcshpn_8 : VD TTshpn (st0 cShpN) wshpn_8 := by
 intro ρ kn hp
 exact all_nil
theorem vcshpn_9 : VD TTshpn (st0 cShpN) wshpn_9 := by
 intro ρ kn hp
 exact all_nil
theorem vcshpn_10 : VD TTshpn (st0 cShpN) wshpn_10 := by
 intro ρ kn hp
 exact all_nil
theorem vcshpn_11 : VD TTshpn (st0 cShpN) wshpn_11 := by
 intro ρ kn hp
 exact all_nil
theorem vcshpn_12 : VD TTshpn (st0 cShpN) wshpn_12 := by
 intro ρ kn hp
 exact all_nil
theorem vcshpn_13 : VD TTshpn (st0 cShpN) wshpn_13 := by
 intro ρ kn hp
 exact all_nil
theorem vcshpn_14 : VD TTshpn (st0 cShpN) wshpn_14 := by
 intro ρ kn hp
 exact all_nil
theorem told_shpn : Sx.Told oct.Φ cShpN := told_vw (cs := []) (all_nil) 3000 vwshpn (by kernel_rfl) (by kernel_rfl) (by kernel_rfl) (post_nil rfl) (by kernel_rfl) (by kernel_rfl) (all_cons vcshpn_0 (all_cons vcshpn_1 (all_cons vcshpn_2 (all_cons vcshpn_3 (all_cons vcshpn_4 (all_cons vcshpn_5 (all_cons vcshpn_6 (all_cons vcshpn_7 (all_cons vcshpn_8 (all_cons vcshpn_9 (all_cons vcshpn_10 (all_cons vcshpn_11 (all_cons vcshpn_12 (all_cons vcshpn_13 (all_cons vcshpn_14 (all_nil))))))))))))))))
end Go.Proofs.Ythenenacmiiphaa.oct
