/- Layer escrow: changes, told. No condition. -/
import Derived.Test.YtdfgidogiacmnaaEa
set_option linter.unusedVariables false
set_option linter.unusedSimpArgs false
set_option linter.deprecated false
namespace Go.Proofs.Ytdfgidogiacmnaa.esc
open Go Go.Proofs.Ytdfgidogiacmnaa.Sx
theorem told_works : Sx.Told esc.Φ cWorks := told_auto (cs := []) (all_nil) 60000 (by kernel_rfl) (by kernel_rfl) (by kernel_rfl) (post_nil rfl) (by kernel_rfl) (by kernel_rfl)
noncomputable section
abbrev TTchg : Tab := T esc.Φ cChg.roms []
def pcchg_0 : List BE := [(BE.lit true), (BE.le (IE.var .i64 1) (IE.lit 9223372036854775807)), (BE.le (IE.lit (-9223372036854775808)) (IE.var .i64 2)), (BE.eq (IE.fn .i64 1 (AL.int .i64 (IE.var .i64 1) (AL.int .i64 (IE.var .i64 2) (AL.int .u64 (IE.var .u64 3) (AL.int .i64 (IE.var .i64 4) AL.nil))))) (IE.lit 0))]
def pcchg_1 : List BE := ((BE.le (IE.var .i64 2) (IE.var .i64 1)) :: pcchg_0)
def pcchg_2 : List BE := ((BE.le (IE.var .u64 3) (IE.lit 4611686018427387904)) :: pcchg_1)
def pcchg_3 : List BE := ((BE.not (BE.eq (IE.var .i64 4) (IE.lit 0))) :: pcchg_2)
def pcchg_4 : List BE := ((BE.le (IE.lit 0) (IE.var .i64 4)) :: pcchg_3)
def pcchg_5 : List BE := ((BE.not (BE.le (IE.lit 0) (IE.var .i64 4))) :: pcchg_3)
def pcchg_6 : List BE := ((BE.le (IE.lit 1) (IE.var .i64 4)) :: pcchg_4)
def pcchg_7 : List BE := ((BE.le (IE.lit 0) (IE.var .i64 2)) :: pcchg_5)
def pcchg_8 : List BE := ((BE.not (BE.le (IE.lit 0) (IE.var .i64 2))) :: pcchg_5)
def pcchg_9 : List BE := ((BE.le (IE.var .i64 1) (IE.sub (IE.lit 9223372036854775807) (IE.var .i64 4))) :: pcchg_6)
def pcchg_10 : List BE := ((BE.le (IE.add (IE.sub (IE.lit (-1)) (IE.var .i64 4)) (IE.lit 1)) (IE.sub (IE.var .i64 1) (IE.var .i64 2))) :: pcchg_7)
def pcchg_11 : List BE := ((BE.le (IE.lit 0) (IE.var .i64 1)) :: pcchg_8)
def pcchg_12 : List BE := ((BE.not (BE.le (IE.lit 0) (IE.var .i64 1))) :: pcchg_8)
def pcchg_13 : List BE := ((BE.le (IE.add (IE.sub (IE.lit (-1)) (IE.var .i64 4)) (IE.lit 1)) (IE.add (IE.add (IE.var .i64 1) (IE.sub (IE.lit (-1)) (IE.var .i64 2))) (IE.lit 1))) :: pcchg_11)
def pcchg_14 : List BE := ((BE.le (IE.add (IE.sub (IE.lit (-1)) (IE.var .i64 4)) (IE.lit 1)) (IE.sub (IE.var .i64 1) (IE.var .i64 2))) :: pcchg_12)
def pcchg_15 : List BE := ((BE.not (BE.eq (IE.var .u64 3) (IE.lit 4611686018427387904))) :: pcchg_13)
def wchg_0 : VW := (VW.done ((BE.eq (IE.var .i64 4) (IE.lit 0)) :: pcchg_2) (some [(G.i (IE.add (IE.var .i64 1) (IE.var .i64 4)) (IE.lit 0)), (G.i (IE.var .i64 2) (IE.lit 0)), (G.i (IE.add (IE.var .u64 3) (IE.lit 1)) (IE.lit 0)), (G.i (IE.lit 0) (IE.lit 2))]))
def wchg_1 : VW := (VW.done ((BE.eq (IE.var .u64 3) (IE.lit 4611686018427387904)) :: pcchg_9) (some [(G.i (IE.add (IE.var .i64 1) (IE.var .i64 4)) (IE.lit 0)), (G.i (IE.var .i64 2) (IE.lit 0)), (G.i (IE.add (IE.var .u64 3) (IE.lit 1)) (IE.lit 0)), (G.i (IE.lit 0) (IE.lit 142))]))
def wchg_2 : VW := (VW.done ((BE.not (BE.eq (IE.var .u64 3) (IE.lit 4611686018427387904))) :: pcchg_9) (some []))
def wchg_3 : VW := (VW.done ((BE.not (BE.le (IE.var .i64 1) (IE.sub (IE.lit 9223372036854775807) (IE.var .i64 4)))) :: pcchg_6) (some [(G.i (IE.add (IE.var .i64 1) (IE.var .i64 4)) (IE.lit 0)), (G.i (IE.var .i64 2) (IE.lit 0)), (G.i (IE.add (IE.var .u64 3) (IE.lit 1)) (IE.lit 0)), (G.i (IE.lit 0) (IE.lit 141))]))
def wchg_4 : VW := (VW.done ((BE.not (BE.le (IE.lit 1) (IE.var .i64 4))) :: pcchg_4) (some [(G.i (IE.add (IE.var .i64 1) (IE.var .i64 4)) (IE.lit 0)), (G.i (IE.var .i64 2) (IE.lit 0)), (G.i (IE.add (IE.var .u64 3) (IE.lit 1)) (IE.lit 0)), (G.i (IE.lit 0) (IE.lit 2))]))
def wchg_5 : VW := (VW.done ((BE.eq (IE.var .u64 3) (IE.lit 4611686018427387904)) :: pcchg_10) (some [(G.i (IE.add (IE.var .i64 1) (IE.var .i64 4)) (IE.lit 0)), (G.i (IE.var .i64 2) (IE.lit 0)), (G.i (IE.add (IE.var .u64 3) (IE.lit 1)) (IE.lit 0)), (G.i (IE.lit 0) (IE.lit 142))]))
def wchg_6 : VW := (VW.done ((BE.not (BE.eq (IE.var .u64 3) (IE.lit 4611686018427387904))) :: pcchg_10) (some []))
def wchg_7 : VW := (VW.done ((BE.not (BE.le (IE.add (IE.sub (IE.lit (-1)) (IE.var .i64 4)) (IE.lit 1)) (IE.sub (IE.var .i64 1) (IE.var .i64 2)))) :: pcchg_7) (some [(G.i (IE.add (IE.var .i64 1) (IE.var .i64 4)) (IE.lit 0)), (G.i (IE.var .i64 2) (IE.lit 0)), (G.i (IE.add (IE.var .u64 3) (IE.lit 1)) (IE.lit 0)), (G.i (IE.lit 0) (IE.lit 140))]))
def wchg_8 : VW := (VW.done ((BE.eq (IE.var .u64 3) (IE.lit 4611686018427387904)) :: pcchg_13) (some [(G.i (IE.add (IE.var .i64 1) (IE.var .i64 4)) (IE.lit 0)), (G.i (IE.var .i64 2) (IE.lit 0)), (G.i (IE.add (IE.var .u64 3) (IE.lit 1)) (IE.lit 0)), (G.i (IE.lit 0) (IE.lit 142))]))
def wchg_9 : VW := (VW.done ((BE.le (IE.add (IE.sub (IE.lit (-1)) (IE.var .i64 4)) (IE.lit 1)) (IE.lit 9223372036854775807)) :: pcchg_15) (some []))
def wchg_10 : VW := (VW.done ((BE.not (BE.le (IE.add (IE.sub (IE.lit (-1)) (IE.var .i64 4)) (IE.lit 1)) (IE.lit 9223372036854775807))) :: pcchg_15) (some []))
def wchg_11 : VW := (VW.done ((BE.not (BE.le (IE.add (IE.sub (IE.lit (-1)) (IE.var .i64 4)) (IE.lit 1)) (IE.add (IE.add (IE.var .i64 1) (IE.sub (IE.lit (-1)) (IE.var .i64 2))) (IE.lit 1)))) :: pcchg_11) (some [(G.i (IE.add (IE.var .i64 1) (IE.var .i64 4)) (IE.lit 0)), (G.i (IE.var .i64 2) (IE.lit 0)), (G.i (IE.add (IE.var .u64 3) (IE.lit 1)) (IE.lit 0)), (G.i (IE.lit 0) (IE.lit 140))]))
def wchg_12 : VW := (VW.done ((BE.eq (IE.var .u64 3) (IE.lit 4611686018427387904)) :: pcchg_14) (some [(G.i (IE.add (IE.var .i64 1) (IE.var .i64 4)) (IE.lit 0)), (G.i (IE.var .i64 2) (IE.lit 0)), (G.i (IE.add (IE.var .u64 3) (IE.lit 1)) (IE.lit 0)), (G.i (IE.lit 0) (IE.lit 142))]))
def wchg_13 : VW := (VW.done ((BE.not (BE.eq (IE.var .u64 3) (IE.lit 4611686018427387904))) :: pcchg_14) (some []))
def wchg_14 : VW := (VW.done ((BE.not (BE.le (IE.add (IE.sub (IE.lit (-1)) (IE.var .i64 4)) (IE.lit 1)) (IE.sub (IE.var .i64 1) (IE.var .i64 2)))) :: pcchg_12) (some [(G.i (IE.add (IE.var .i64 1) (IE.var .i64 4)) (IE.lit 0)), (G.i (IE.var .i64 2) (IE.lit 0)), (G.i (IE.add (IE.var .u64 3) (IE.lit 1)) (IE.lit 0)), (G.i (IE.lit 0) (IE.lit 140))]))
def wchg_15 : VW := (VW.done ((BE.not (BE.le (IE.var .u64 3) (IE.lit 4611686018427387904))) :: pcchg_1) (some [(G.i (IE.add (IE.var .i64 1) (IE.var .i64 4)) (IE.lit 0)), (G.i (IE.var .i64 2) (IE.lit 0)), (G.i (IE.add (IE.var .u64 3) (IE.lit 1)) (IE.lit 0)), (G.i (IE.lit 0) (IE.lit 2))]))
def wchg_16 : VW := (VW.done ((BE.not (BE.le (IE.var .i64 2) (IE.var .i64 1))) :: pcchg_0) (some [(G.i (IE.add (IE.var .i64 1) (IE.var .i64 4)) (IE.lit 0)), (G.i (IE.var .i64 2) (IE.lit 0)), (G.i (IE.add (IE.var .u64 3) (IE.lit 1)) (IE.lit 0)), (G.i (IE.lit 0) (IE.lit 2))]))
def vwchg : List VW := [wchg_0, wchg_1, wchg_2, wchg_3, wchg_4, wchg_5, wchg_6, wchg_7, wchg_8, wchg_9, wchg_10, wchg_11, wchg_12, wchg_13, wchg_14, wchg_15, wchg_16]
end
theorem vcchg_0 : VD TTchg (st0 cChg) wchg_0 := by
  intro ρ kn hp
  have hF : ρ.z.F = esc.Φ := kn.F
  simp only [h_nil, h_cons, d_le, d_eq, d_not, d_var, d_lit, d_cel, d_leq, d_fn, d_and, d_iff, IE.den, LE.den, AL.den, lenV, true_and, and_true, pcchg_2, pcchg_1, pcchg_0, hF, pi1, pi2, pi3, pl2] at hp
  obtain ⟨p1, p2, p3, p4, p5, p6⟩ := hp
  refine all_cons (show ((ρ.i .i64 1) + (ρ.i .i64 4)) = (0 : Int) from ?_) (all_cons (show (ρ.i .i64 2) = (0 : Int) from ?_) (all_cons (show ((ρ.i .u64 3) + (1 : Int)) = (0 : Int) from ?_) (all_cons (show (0 : Int) = (2 : Int) from ?_) (all_nil))))
  all_goals try simp only [hF, pi1, pi2, pi3, pl2]
  all_goals
    have k := err_cases (ρ.i .i64 1) (ρ.i .i64 2) (ρ.i .u64 3) (ρ.i .i64 4)
    simp only [err_in] at *
    omega
theorem vcchg_1 : VD TTchg (st0 cChg) wchg_1 := by
  intro ρ kn hp
  have hF : ρ.z.F = esc.Φ := kn.F
  simp only [h_nil, h_cons, d_le, d_eq, d_not, d_var, d_lit, d_cel, d_leq, d_fn, d_and, d_iff, IE.den, LE.den, AL.den, lenV, true_and, and_true, pcchg_9, pcchg_6, pcchg_4, pcchg_3, pcchg_2, pcchg_1, pcchg_0, hF, pi1, pi2, pi3, pl2] at hp
  obtain ⟨p1, p2, p3, p4, p5, p6, p7, p8, p9, p10⟩ := hp
  refine all_cons (show ((ρ.i .i64 1) + (ρ.i .i64 4)) = (0 : Int) from ?_) (all_cons (show (ρ.i .i64 2) = (0 : Int) from ?_) (all_cons (show ((ρ.i .u64 3) + (1 : Int)) = (0 : Int) from ?_) (all_cons (show (0 : Int) = (142 : Int) from ?_) (all_nil))))
  all_goals try simp only [hF, pi1, pi2, pi3, pl2]
  all_goals
    have k := err_cases (ρ.i .i64 1) (ρ.i .i64 2) (ρ.i .u64 3) (ρ.i .i64 4)
    simp only [err_in] at *
    omega
theorem vcchg_2 : VD TTchg (st0 cChg) wchg_2 := by
  intro ρ kn hp
  exact all_nil
theorem vcchg_3 : VD TTchg (st0 cChg) wchg_3 := by
  intro ρ kn hp
  have hF : ρ.z.F = esc.Φ := kn.F
  simp only [h_nil, h_cons, d_le, d_eq, d_not, d_var, d_lit, d_cel, d_leq, d_fn, d_and, d_iff, IE.den, LE.den, AL.den, lenV, true_and, and_true, pcchg_6, pcchg_4, pcchg_3, pcchg_2, pcchg_1, pcchg_0, hF, pi1, pi2, pi3, pl2] at hp
  obtain ⟨p1, p2, p3, p4, p5, p6, p7, p8, p9⟩ := hp
  refine all_cons (show ((ρ.i .i64 1) + (ρ.i .i64 4)) = (0 : Int) from ?_) (all_cons (show (ρ.i .i64 2) = (0 : Int) from ?_) (all_cons (show ((ρ.i .u64 3) + (1 : Int)) = (0 : Int) from ?_) (all_cons (show (0 : Int) = (141 : Int) from ?_) (all_nil))))
  all_goals try simp only [hF, pi1, pi2, pi3, pl2]
  all_goals
    have k := err_cases (ρ.i .i64 1) (ρ.i .i64 2) (ρ.i .u64 3) (ρ.i .i64 4)
    simp only [err_in] at *
    omega
theorem vcchg_4 : VD TTchg (st0 cChg) wchg_4 := by
  intro ρ kn hp
  have hF : ρ.z.F = esc.Φ := kn.F
  simp only [h_nil, h_cons, d_le, d_eq, d_not, d_var, d_lit, d_cel, d_leq, d_fn, d_and, d_iff, IE.den, LE.den, AL.den, lenV, true_and, and_true, pcchg_4, pcchg_3, pcchg_2, pcchg_1, pcchg_0, hF, pi1, pi2, pi3, pl2] at hp
  obtain ⟨p1, p2, p3, p4, p5, p6, p7, p8⟩ := hp
  refine all_cons (show ((ρ.i .i64 1) + (ρ.i .i64 4)) = (0 : Int) from ?_) (all_cons (show (ρ.i .i64 2) = (0 : Int) from ?_) (all_cons (show ((ρ.i .u64 3) + (1 : Int)) = (0 : Int) from ?_) (all_cons (show (0 : Int) = (2 : Int) from ?_) (all_nil))))
  all_goals try simp only [hF, pi1, pi2, pi3, pl2]
  all_goals
    have k := err_cases (ρ.i .i64 1) (ρ.i .i64 2) (ρ.i .u64 3) (ρ.i .i64 4)
    simp only [err_in] at *
    omega
theorem vcchg_5 : VD TTchg (st0 cChg) wchg_5 := by
  intro ρ kn hp
  have hF : ρ.z.F = esc.Φ := kn.F
  simp only [h_nil, h_cons, d_le, d_eq, d_not, d_var, d_lit, d_cel, d_leq, d_fn, d_and, d_iff, IE.den, LE.den, AL.den, lenV, true_and, and_true, pcchg_10, pcchg_7, pcchg_5, pcchg_3, pcchg_2, pcchg_1, pcchg_0, hF, pi1, pi2, pi3, pl2] at hp
  obtain ⟨p1, p2, p3, p4, p5, p6, p7, p8, p9, p10⟩ := hp
  refine all_cons (show ((ρ.i .i64 1) + (ρ.i .i64 4)) = (0 : Int) from ?_) (all_cons (show (ρ.i .i64 2) = (0 : Int) from ?_) (all_cons (show ((ρ.i .u64 3) + (1 : Int)) = (0 : Int) from ?_) (all_cons (show (0 : Int) = (142 : Int) from ?_) (all_nil))))
  all_goals try simp only [hF, pi1, pi2, pi3, pl2]
  all_goals
    have k := err_cases (ρ.i .i64 1) (ρ.i .i64 2) (ρ.i .u64 3) (ρ.i .i64 4)
    simp only [err_in] at *
    omega
theorem vcchg_6 : VD TTchg (st0 cChg) wchg_6 := by
  intro ρ kn hp
  exact all_nil
theorem vcchg_7 : VD TTchg (st0 cChg) wchg_7 := by
  intro ρ kn hp
  have hF : ρ.z.F = esc.Φ := kn.F
  simp only [h_nil, h_cons, d_le, d_eq, d_not, d_var, d_lit, d_cel, d_leq, d_fn, d_and, d_iff, IE.den, LE.den, AL.den, lenV, true_and, and_true, pcchg_7, pcchg_5, pcchg_3, pcchg_2, pcchg_1, pcchg_0, hF, pi1, pi2, pi3, pl2] at hp
  obtain ⟨p1, p2, p3, p4, p5, p6, p7, p8, p9⟩ := hp
  refine all_cons (show ((ρ.i .i64 1) + (ρ.i .i64 4)) = (0 : Int) from ?_) (all_cons (show (ρ.i .i64 2) = (0 : Int) from ?_) (all_cons (show ((ρ.i .u64 3) + (1 : Int)) = (0 : Int) from ?_) (all_cons (show (0 : Int) = (140 : Int) from ?_) (all_nil))))
  all_goals try simp only [hF, pi1, pi2, pi3, pl2]
  all_goals
    have k := err_cases (ρ.i .i64 1) (ρ.i .i64 2) (ρ.i .u64 3) (ρ.i .i64 4)
    simp only [err_in] at *
    omega
theorem vcchg_8 : VD TTchg (st0 cChg) wchg_8 := by
  intro ρ kn hp
  have hF : ρ.z.F = esc.Φ := kn.F
  simp only [h_nil, h_cons, d_le, d_eq, d_not, d_var, d_lit, d_cel, d_leq, d_fn, d_and, d_iff, IE.den, LE.den, AL.den, lenV, true_and, and_true, pcchg_13, pcchg_11, pcchg_8, pcchg_5, pcchg_3, pcchg_2, pcchg_1, pcchg_0, hF, pi1, pi2, pi3, pl2] at hp
  obtain ⟨p1, p2, p3, p4, p5, p6, p7, p8, p9, p10, p11⟩ := hp
  refine all_cons (show ((ρ.i .i64 1) + (ρ.i .i64 4)) = (0 : Int) from ?_) (all_cons (show (ρ.i .i64 2) = (0 : Int) from ?_) (all_cons (show ((ρ.i .u64 3) + (1 : Int)) = (0 : Int) from ?_) (all_cons (show (0 : Int) = (142 : Int) from ?_) (all_nil))))
  all_goals try simp only [hF, pi1, pi2, pi3, pl2]
  all_goals
    have k := err_cases (ρ.i .i64 1) (ρ.i .i64 2) (ρ.i .u64 3) (ρ.i .i64 4)
    simp only [err_in] at *
    omega
theorem vcchg_9 : VD TTchg (st0 cChg) wchg_9 := by
  intro ρ kn hp
  exact all_nil
theorem vcchg_10 : VD TTchg (st0 cChg) wchg_10 := by
  intro ρ kn hp
  exact all_nil
theorem vcchg_11 : VD TTchg (st0 cChg) wchg_11 := by
  intro ρ kn hp
  have hF : ρ.z.F = esc.Φ := kn.F
  simp only [h_nil, h_cons, d_le, d_eq, d_not, d_var, d_lit, d_cel, d_leq, d_fn, d_and, d_iff, IE.den, LE.den, AL.den, lenV, true_and, and_true, pcchg_11, pcchg_8, pcchg_5, pcchg_3, pcchg_2, pcchg_1, pcchg_0, hF, pi1, pi2, pi3, pl2] at hp
  obtain ⟨p1, p2, p3, p4, p5, p6, p7, p8, p9, p10⟩ := hp
  refine all_cons (show ((ρ.i .i64 1) + (ρ.i .i64 4)) = (0 : Int) from ?_) (all_cons (show (ρ.i .i64 2) = (0 : Int) from ?_) (all_cons (show ((ρ.i .u64 3) + (1 : Int)) = (0 : Int) from ?_) (all_cons (show (0 : Int) = (140 : Int) from ?_) (all_nil))))
  all_goals try simp only [hF, pi1, pi2, pi3, pl2]
  all_goals
    have k := err_cases (ρ.i .i64 1) (ρ.i .i64 2) (ρ.i .u64 3) (ρ.i .i64 4)
    simp only [err_in] at *
    omega
theorem vcchg_12 : VD TTchg (st0 cChg) wchg_12 := by
  intro ρ kn hp
  have hF : ρ.z.F = esc.Φ := kn.F
  simp only [h_nil, h_cons, d_le, d_eq, d_not, d_var, d_lit, d_cel, d_leq, d_fn, d_and, d_iff, IE.den, LE.den, AL.den, lenV, true_and, and_true, pcchg_14, pcchg_12, pcchg_8, pcchg_5, pcchg_3, pcchg_2, pcchg_1, pcchg_0, hF, pi1, pi2, pi3, pl2] at hp
  obtain ⟨p1, p2, p3, p4, p5, p6, p7, p8, p9, p10, p11⟩ := hp
  refine all_cons (show ((ρ.i .i64 1) + (ρ.i .i64 4)) = (0 : Int) from ?_) (all_cons (show (ρ.i .i64 2) = (0 : Int) from ?_) (all_cons (show ((ρ.i .u64 3) + (1 : Int)) = (0 : Int) from ?_) (all_cons (show (0 : Int) = (142 : Int) from ?_) (all_nil))))
  all_goals try simp only [hF, pi1, pi2, pi3, pl2]
  all_goals
    have k := err_cases (ρ.i .i64 1) (ρ.i .i64 2) (ρ.i .u64 3) (ρ.i .i64 4)
    simp only [err_in] at *
    omega
theorem vcchg_13 : VD TTchg (st0 cChg) wchg_13 := by
  intro ρ kn hp
  exact all_nil
theorem vcchg_14 : VD TTchg (st0 cChg) wchg_14 := by
  intro ρ kn hp
  have hF : ρ.z.F = esc.Φ := kn.F
  simp only [h_nil, h_cons, d_le, d_eq, d_not, d_var, d_lit, d_cel, d_leq, d_fn, d_and, d_iff, IE.den, LE.den, AL.den, lenV, true_and, and_true, pcchg_12, pcchg_8, pcchg_5, pcchg_3, pcchg_2, pcchg_1, pcchg_0, hF, pi1, pi2, pi3, pl2] at hp
  obtain ⟨p1, p2, p3, p4, p5, p6, p7, p8, p9, p10⟩ := hp
  refine all_cons (show ((ρ.i .i64 1) + (ρ.i .i64 4)) = (0 : Int) from ?_) (all_cons (show (ρ.i .i64 2) = (0 : Int) from ?_) (all_cons (show ((ρ.i .u64 3) + (1 : Int)) = (0 : Int) from ?_) (all_cons (show (0 : Int) = (140 : Int) from ?_) (all_nil))))
  all_goals try simp only [hF, pi1, pi2, pi3, pl2]
  all_goals
    have k := err_cases (ρ.i .i64 1) (ρ.i .i64 2) (ρ.i .u64 3) (ρ.i .i64 4)
    simp only [err_in] at *
    omega
theorem vcchg_15 : VD TTchg (st0 cChg) wchg_15 := by
  intro ρ kn hp
  have hF : ρ.z.F = esc.Φ := kn.F
  simp only [h_nil, h_cons, d_le, d_eq, d_not, d_var, d_lit, d_cel, d_leq, d_fn, d_and, d_iff, IE.den, LE.den, AL.den, lenV, true_and, and_true, pcchg_1, pcchg_0, hF, pi1, pi2, pi3, pl2] at hp
  obtain ⟨p1, p2, p3, p4, p5⟩ := hp
  refine all_cons (show ((ρ.i .i64 1) + (ρ.i .i64 4)) = (0 : Int) from ?_) (all_cons (show (ρ.i .i64 2) = (0 : Int) from ?_) (all_cons (show ((ρ.i .u64 3) + (1 : Int)) = (0 : Int) from ?_) (all_cons (show (0 : Int) = (2 : Int) from ?_) (all_nil))))
  all_goals try simp only [hF, pi1, pi2, pi3, pl2]
  all_goals
    have k := err_cases (ρ.i .i64 1) (ρ.i .i64 2) (ρ.i .u64 3) (ρ.i .i64 4)
    simp only [err_in] at *
    omega
theorem vcchg_16 : VD TTchg (st0 cChg) wchg_16 := by
  intro ρ kn hp
  have hF : ρ.z.F = esc.Φ := kn.F
  simp only [h_nil, h_cons, d_le, d_eq, d_not, d_var, d_lit, d_cel, d_leq, d_fn, d_and, d_iff, IE.den, LE.den, AL.den, lenV, true_and, and_true, pcchg_0, hF, pi1, pi2, pi3, pl2] at hp
  obtain ⟨p1, p2, p3, p4⟩ := hp
  refine all_cons (show ((ρ.i .i64 1) + (ρ.i .i64 4)) = (0 : Int) from ?_) (all_cons (show (ρ.i .i64 2) = (0 : Int) from ?_) (all_cons (show ((ρ.i .u64 3) + (1 : Int)) = (0 : Int) from ?_) (all_cons (show (0 : Int) = (2 : Int) from ?_) (all_nil))))
  all_goals try simp only [hF, pi1, pi2, pi3, pl2]
  all_goals
    have k := err_cases (ρ.i .i64 1) (ρ.i .i64 2) (ρ.i .u64 3) (ρ.i .i64 4)
    simp only [err_in] at *
    omega
theorem told_chg : Sx.Told esc.Φ cChg := told_vw (cs := []) (all_nil) 9000 vwchg (by kernel_rfl) (by kernel_rfl) (by kernel_rfl) post_chg (by kernel_rfl) (by kernel_rfl) (all_cons vcchg_0 (all_cons vcchg_1 (all_cons vcchg_2 (all_cons vcchg_3 (all_cons vcchg_4 (all_cons vcchg_5 (all_cons vcchg_6 (all_cons vcchg_7 (all_cons vcchg_8 (all_cons vcchg_9 (all_cons vcchg_10 (all_cons vcchg_11 (all_cons vcchg_12 (all_cons vcchg_13 (all_cons vcchg_14 (all_cons vcchg_15 (all_cons vcchg_16 (all_nil))))))))))))))))))
noncomputable section
abbrev TTchgN : Tab := T esc.Φ cChgN.roms []
def pcchgN_0 : List BE := [(BE.lit true), (BE.not (BE.eq (IE.fn .i64 1 (AL.int .i64 (IE.var .i64 1) (AL.int .i64 (IE.var .i64 2) (AL.int .u64 (IE.var .u64 3) (AL.int .i64 (IE.var .i64 4) AL.nil))))) (IE.lit 0)))]
def pcchgN_1 : List BE := ((BE.le (IE.var .i64 2) (IE.var .i64 1)) :: pcchgN_0)
def pcchgN_2 : List BE := ((BE.le (IE.var .u64 3) (IE.lit 4611686018427387904)) :: pcchgN_1)
def pcchgN_3 : List BE := ((BE.not (BE.eq (IE.var .i64 4) (IE.lit 0))) :: pcchgN_2)
def pcchgN_4 : List BE := ((BE.le (IE.lit 0) (IE.var .i64 4)) :: pcchgN_3)
def pcchgN_5 : List BE := ((BE.not (BE.le (IE.lit 0) (IE.var .i64 4))) :: pcchgN_3)
def pcchgN_6 : List BE := ((BE.le (IE.lit 1) (IE.var .i64 4)) :: pcchgN_4)
def pcchgN_7 : List BE := ((BE.le (IE.lit 0) (IE.var .i64 2)) :: pcchgN_5)
def pcchgN_8 : List BE := ((BE.not (BE.le (IE.lit 0) (IE.var .i64 2))) :: pcchgN_5)
def pcchgN_9 : List BE := ((BE.le (IE.var .i64 1) (IE.sub (IE.lit 9223372036854775807) (IE.var .i64 4))) :: pcchgN_6)
def pcchgN_10 : List BE := ((BE.le (IE.add (IE.sub (IE.lit (-1)) (IE.var .i64 4)) (IE.lit 1)) (IE.sub (IE.var .i64 1) (IE.var .i64 2))) :: pcchgN_7)
def pcchgN_11 : List BE := ((BE.le (IE.lit 0) (IE.var .i64 1)) :: pcchgN_8)
def pcchgN_12 : List BE := ((BE.not (BE.le (IE.lit 0) (IE.var .i64 1))) :: pcchgN_8)
def pcchgN_13 : List BE := ((BE.le (IE.add (IE.sub (IE.lit (-1)) (IE.var .i64 4)) (IE.lit 1)) (IE.add (IE.add (IE.var .i64 1) (IE.sub (IE.lit (-1)) (IE.var .i64 2))) (IE.lit 1))) :: pcchgN_11)
def pcchgN_14 : List BE := ((BE.le (IE.add (IE.sub (IE.lit (-1)) (IE.var .i64 4)) (IE.lit 1)) (IE.sub (IE.var .i64 1) (IE.var .i64 2))) :: pcchgN_12)
def pcchgN_15 : List BE := ((BE.not (BE.eq (IE.var .u64 3) (IE.lit 4611686018427387904))) :: pcchgN_13)
def wchgN_0 : VW := (VW.done ((BE.eq (IE.var .i64 4) (IE.lit 0)) :: pcchgN_2) (some [(G.i (IE.fn .i64 1 (AL.int .i64 (IE.var .i64 1) (AL.int .i64 (IE.var .i64 2) (AL.int .u64 (IE.var .u64 3) (AL.int .i64 (IE.var .i64 4) AL.nil))))) (IE.lit 2))]))
def wchgN_1 : VW := (VW.done ((BE.eq (IE.var .u64 3) (IE.lit 4611686018427387904)) :: pcchgN_9) (some [(G.i (IE.fn .i64 1 (AL.int .i64 (IE.var .i64 1) (AL.int .i64 (IE.var .i64 2) (AL.int .u64 (IE.var .u64 3) (AL.int .i64 (IE.var .i64 4) AL.nil))))) (IE.lit 142))]))
def wchgN_2 : VW := (VW.done ((BE.not (BE.eq (IE.var .u64 3) (IE.lit 4611686018427387904))) :: pcchgN_9) (some [(G.i (IE.lit 0) (IE.add (IE.var .i64 1) (IE.var .i64 4))), (G.i (IE.lit 0) (IE.var .i64 2)), (G.i (IE.lit 0) (IE.add (IE.var .u64 3) (IE.lit 1))), (G.i (IE.fn .i64 1 (AL.int .i64 (IE.var .i64 1) (AL.int .i64 (IE.var .i64 2) (AL.int .u64 (IE.var .u64 3) (AL.int .i64 (IE.var .i64 4) AL.nil))))) (IE.lit 0))]))
def wchgN_3 : VW := (VW.done ((BE.not (BE.le (IE.var .i64 1) (IE.sub (IE.lit 9223372036854775807) (IE.var .i64 4)))) :: pcchgN_6) (some [(G.i (IE.fn .i64 1 (AL.int .i64 (IE.var .i64 1) (AL.int .i64 (IE.var .i64 2) (AL.int .u64 (IE.var .u64 3) (AL.int .i64 (IE.var .i64 4) AL.nil))))) (IE.lit 141))]))
def wchgN_4 : VW := (VW.done ((BE.not (BE.le (IE.lit 1) (IE.var .i64 4))) :: pcchgN_4) (some [(G.i (IE.fn .i64 1 (AL.int .i64 (IE.var .i64 1) (AL.int .i64 (IE.var .i64 2) (AL.int .u64 (IE.var .u64 3) (AL.int .i64 (IE.var .i64 4) AL.nil))))) (IE.lit 2))]))
def wchgN_5 : VW := (VW.done ((BE.eq (IE.var .u64 3) (IE.lit 4611686018427387904)) :: pcchgN_10) (some [(G.i (IE.fn .i64 1 (AL.int .i64 (IE.var .i64 1) (AL.int .i64 (IE.var .i64 2) (AL.int .u64 (IE.var .u64 3) (AL.int .i64 (IE.var .i64 4) AL.nil))))) (IE.lit 142))]))
def wchgN_6 : VW := (VW.done ((BE.not (BE.eq (IE.var .u64 3) (IE.lit 4611686018427387904))) :: pcchgN_10) (some [(G.i (IE.lit 0) (IE.sub (IE.var .i64 1) (IE.add (IE.sub (IE.lit (-1)) (IE.var .i64 4)) (IE.lit 1)))), (G.i (IE.lit 0) (IE.var .i64 2)), (G.i (IE.lit 0) (IE.add (IE.var .u64 3) (IE.lit 1))), (G.i (IE.fn .i64 1 (AL.int .i64 (IE.var .i64 1) (AL.int .i64 (IE.var .i64 2) (AL.int .u64 (IE.var .u64 3) (AL.int .i64 (IE.var .i64 4) AL.nil))))) (IE.lit 0))]))
def wchgN_7 : VW := (VW.done ((BE.not (BE.le (IE.add (IE.sub (IE.lit (-1)) (IE.var .i64 4)) (IE.lit 1)) (IE.sub (IE.var .i64 1) (IE.var .i64 2)))) :: pcchgN_7) (some [(G.i (IE.fn .i64 1 (AL.int .i64 (IE.var .i64 1) (AL.int .i64 (IE.var .i64 2) (AL.int .u64 (IE.var .u64 3) (AL.int .i64 (IE.var .i64 4) AL.nil))))) (IE.lit 140))]))
def wchgN_8 : VW := (VW.done ((BE.eq (IE.var .u64 3) (IE.lit 4611686018427387904)) :: pcchgN_13) (some [(G.i (IE.fn .i64 1 (AL.int .i64 (IE.var .i64 1) (AL.int .i64 (IE.var .i64 2) (AL.int .u64 (IE.var .u64 3) (AL.int .i64 (IE.var .i64 4) AL.nil))))) (IE.lit 142))]))
def wchgN_9 : VW := (VW.done ((BE.le (IE.add (IE.sub (IE.lit (-1)) (IE.var .i64 4)) (IE.lit 1)) (IE.lit 9223372036854775807)) :: pcchgN_15) (some [(G.i (IE.lit 0) (IE.sub (IE.var .i64 1) (IE.add (IE.sub (IE.lit (-1)) (IE.var .i64 4)) (IE.lit 1)))), (G.i (IE.lit 0) (IE.var .i64 2)), (G.i (IE.lit 0) (IE.add (IE.var .u64 3) (IE.lit 1))), (G.i (IE.fn .i64 1 (AL.int .i64 (IE.var .i64 1) (AL.int .i64 (IE.var .i64 2) (AL.int .u64 (IE.var .u64 3) (AL.int .i64 (IE.var .i64 4) AL.nil))))) (IE.lit 0))]))
def wchgN_10 : VW := (VW.done ((BE.not (BE.le (IE.add (IE.sub (IE.lit (-1)) (IE.var .i64 4)) (IE.lit 1)) (IE.lit 9223372036854775807))) :: pcchgN_15) (some [(G.i (IE.lit 0) (IE.sub (IE.sub (IE.var .i64 1) (IE.lit 9223372036854775807)) (IE.sub (IE.add (IE.sub (IE.lit (-1)) (IE.var .i64 4)) (IE.lit 1)) (IE.lit 9223372036854775807)))), (G.i (IE.lit 0) (IE.var .i64 2)), (G.i (IE.lit 0) (IE.add (IE.var .u64 3) (IE.lit 1))), (G.i (IE.fn .i64 1 (AL.int .i64 (IE.var .i64 1) (AL.int .i64 (IE.var .i64 2) (AL.int .u64 (IE.var .u64 3) (AL.int .i64 (IE.var .i64 4) AL.nil))))) (IE.lit 0))]))
def wchgN_11 : VW := (VW.done ((BE.not (BE.le (IE.add (IE.sub (IE.lit (-1)) (IE.var .i64 4)) (IE.lit 1)) (IE.add (IE.add (IE.var .i64 1) (IE.sub (IE.lit (-1)) (IE.var .i64 2))) (IE.lit 1)))) :: pcchgN_11) (some [(G.i (IE.fn .i64 1 (AL.int .i64 (IE.var .i64 1) (AL.int .i64 (IE.var .i64 2) (AL.int .u64 (IE.var .u64 3) (AL.int .i64 (IE.var .i64 4) AL.nil))))) (IE.lit 140))]))
def wchgN_12 : VW := (VW.done ((BE.eq (IE.var .u64 3) (IE.lit 4611686018427387904)) :: pcchgN_14) (some [(G.i (IE.fn .i64 1 (AL.int .i64 (IE.var .i64 1) (AL.int .i64 (IE.var .i64 2) (AL.int .u64 (IE.var .u64 3) (AL.int .i64 (IE.var .i64 4) AL.nil))))) (IE.lit 142))]))
def wchgN_13 : VW := (VW.done ((BE.not (BE.eq (IE.var .u64 3) (IE.lit 4611686018427387904))) :: pcchgN_14) (some [(G.i (IE.lit 0) (IE.sub (IE.var .i64 1) (IE.add (IE.sub (IE.lit (-1)) (IE.var .i64 4)) (IE.lit 1)))), (G.i (IE.lit 0) (IE.var .i64 2)), (G.i (IE.lit 0) (IE.add (IE.var .u64 3) (IE.lit 1))), (G.i (IE.fn .i64 1 (AL.int .i64 (IE.var .i64 1) (AL.int .i64 (IE.var .i64 2) (AL.int .u64 (IE.var .u64 3) (AL.int .i64 (IE.var .i64 4) AL.nil))))) (IE.lit 0))]))
def wchgN_14 : VW := (VW.done ((BE.not (BE.le (IE.add (IE.sub (IE.lit (-1)) (IE.var .i64 4)) (IE.lit 1)) (IE.sub (IE.var .i64 1) (IE.var .i64 2)))) :: pcchgN_12) (some [(G.i (IE.fn .i64 1 (AL.int .i64 (IE.var .i64 1) (AL.int .i64 (IE.var .i64 2) (AL.int .u64 (IE.var .u64 3) (AL.int .i64 (IE.var .i64 4) AL.nil))))) (IE.lit 140))]))
def wchgN_15 : VW := (VW.done ((BE.not (BE.le (IE.var .u64 3) (IE.lit 4611686018427387904))) :: pcchgN_1) (some [(G.i (IE.fn .i64 1 (AL.int .i64 (IE.var .i64 1) (AL.int .i64 (IE.var .i64 2) (AL.int .u64 (IE.var .u64 3) (AL.int .i64 (IE.var .i64 4) AL.nil))))) (IE.lit 2))]))
def wchgN_16 : VW := (VW.done ((BE.not (BE.le (IE.var .i64 2) (IE.var .i64 1))) :: pcchgN_0) (some [(G.i (IE.fn .i64 1 (AL.int .i64 (IE.var .i64 1) (AL.int .i64 (IE.var .i64 2) (AL.int .u64 (IE.var .u64 3) (AL.int .i64 (IE.var .i64 4) AL.nil))))) (IE.lit 2))]))
def vwchgN : List VW := [wchgN_0, wchgN_1, wchgN_2, wchgN_3, wchgN_4, wchgN_5, wchgN_6, wchgN_7, wchgN_8, wchgN_9, wchgN_10, wchgN_11, wchgN_12, wchgN_13, wchgN_14, wchgN_15, wchgN_16]
end
theorem vcchgN_0 : VD TTchgN (st0 cChgN) wchgN_0 := by
  intro ρ kn hp
  have hF : ρ.z.F = esc.Φ := kn.F
  simp only [h_nil, h_cons, d_le, d_eq, d_not, d_var, d_lit, d_cel, d_leq, d_fn, d_and, d_iff, IE.den, LE.den, AL.den, lenV, true_and, and_true, pcchgN_2, pcchgN_1, pcchgN_0, hF, pi1, pi2, pi3, pl2] at hp
  obtain ⟨p1, p2, p3, p4⟩ := hp
  refine all_cons (show (clampK .i64 (ρ.z.F.i 1 [.int .i64 (ρ.i .i64 1), .int .i64 (ρ.i .i64 2), .int .u64 (ρ.i .u64 3), .int .i64 (ρ.i .i64 4)])) = (2 : Int) from ?_) (all_nil)
  all_goals try simp only [hF, pi1, pi2, pi3, pl2]
  all_goals
    have k := err_cases (ρ.i .i64 1) (ρ.i .i64 2) (ρ.i .u64 3) (ρ.i .i64 4)
    simp only [err_in] at *
    omega
theorem vcchgN_1 : VD TTchgN (st0 cChgN) wchgN_1 := by
  intro ρ kn hp
  have hF : ρ.z.F = esc.Φ := kn.F
  simp only [h_nil, h_cons, d_le, d_eq, d_not, d_var, d_lit, d_cel, d_leq, d_fn, d_and, d_iff, IE.den, LE.den, AL.den, lenV, true_and, and_true, pcchgN_9, pcchgN_6, pcchgN_4, pcchgN_3, pcchgN_2, pcchgN_1, pcchgN_0, hF, pi1, pi2, pi3, pl2] at hp
  obtain ⟨p1, p2, p3, p4, p5, p6, p7, p8⟩ := hp
  refine all_cons (show (clampK .i64 (ρ.z.F.i 1 [.int .i64 (ρ.i .i64 1), .int .i64 (ρ.i .i64 2), .int .u64 (ρ.i .u64 3), .int .i64 (ρ.i .i64 4)])) = (142 : Int) from ?_) (all_nil)
  all_goals try simp only [hF, pi1, pi2, pi3, pl2]
  all_goals
    have k := err_cases (ρ.i .i64 1) (ρ.i .i64 2) (ρ.i .u64 3) (ρ.i .i64 4)
    simp only [err_in] at *
    omega
theorem vcchgN_2 : VD TTchgN (st0 cChgN) wchgN_2 := by
  intro ρ kn hp
  have hF : ρ.z.F = esc.Φ := kn.F
  simp only [h_nil, h_cons, d_le, d_eq, d_not, d_var, d_lit, d_cel, d_leq, d_fn, d_and, d_iff, IE.den, LE.den, AL.den, lenV, true_and, and_true, pcchgN_9, pcchgN_6, pcchgN_4, pcchgN_3, pcchgN_2, pcchgN_1, pcchgN_0, hF, pi1, pi2, pi3, pl2] at hp
  obtain ⟨p1, p2, p3, p4, p5, p6, p7, p8⟩ := hp
  refine all_cons (show (0 : Int) = ((ρ.i .i64 1) + (ρ.i .i64 4)) from ?_) (all_cons (show (0 : Int) = (ρ.i .i64 2) from ?_) (all_cons (show (0 : Int) = ((ρ.i .u64 3) + (1 : Int)) from ?_) (all_cons (show (clampK .i64 (ρ.z.F.i 1 [.int .i64 (ρ.i .i64 1), .int .i64 (ρ.i .i64 2), .int .u64 (ρ.i .u64 3), .int .i64 (ρ.i .i64 4)])) = (0 : Int) from ?_) (all_nil))))
  all_goals try simp only [hF, pi1, pi2, pi3, pl2]
  all_goals
    have k := err_cases (ρ.i .i64 1) (ρ.i .i64 2) (ρ.i .u64 3) (ρ.i .i64 4)
    simp only [err_in] at *
    omega
theorem vcchgN_3 : VD TTchgN (st0 cChgN) wchgN_3 := by
  intro ρ kn hp
  have hF : ρ.z.F = esc.Φ := kn.F
  simp only [h_nil, h_cons, d_le, d_eq, d_not, d_var, d_lit, d_cel, d_leq, d_fn, d_and, d_iff, IE.den, LE.den, AL.den, lenV, true_and, and_true, pcchgN_6, pcchgN_4, pcchgN_3, pcchgN_2, pcchgN_1, pcchgN_0, hF, pi1, pi2, pi3, pl2] at hp
  obtain ⟨p1, p2, p3, p4, p5, p6, p7⟩ := hp
  refine all_cons (show (clampK .i64 (ρ.z.F.i 1 [.int .i64 (ρ.i .i64 1), .int .i64 (ρ.i .i64 2), .int .u64 (ρ.i .u64 3), .int .i64 (ρ.i .i64 4)])) = (141 : Int) from ?_) (all_nil)
  all_goals try simp only [hF, pi1, pi2, pi3, pl2]
  all_goals
    have k := err_cases (ρ.i .i64 1) (ρ.i .i64 2) (ρ.i .u64 3) (ρ.i .i64 4)
    simp only [err_in] at *
    omega
theorem vcchgN_4 : VD TTchgN (st0 cChgN) wchgN_4 := by
  intro ρ kn hp
  have hF : ρ.z.F = esc.Φ := kn.F
  simp only [h_nil, h_cons, d_le, d_eq, d_not, d_var, d_lit, d_cel, d_leq, d_fn, d_and, d_iff, IE.den, LE.den, AL.den, lenV, true_and, and_true, pcchgN_4, pcchgN_3, pcchgN_2, pcchgN_1, pcchgN_0, hF, pi1, pi2, pi3, pl2] at hp
  obtain ⟨p1, p2, p3, p4, p5, p6⟩ := hp
  refine all_cons (show (clampK .i64 (ρ.z.F.i 1 [.int .i64 (ρ.i .i64 1), .int .i64 (ρ.i .i64 2), .int .u64 (ρ.i .u64 3), .int .i64 (ρ.i .i64 4)])) = (2 : Int) from ?_) (all_nil)
  all_goals try simp only [hF, pi1, pi2, pi3, pl2]
  all_goals
    have k := err_cases (ρ.i .i64 1) (ρ.i .i64 2) (ρ.i .u64 3) (ρ.i .i64 4)
    simp only [err_in] at *
    omega
theorem vcchgN_5 : VD TTchgN (st0 cChgN) wchgN_5 := by
  intro ρ kn hp
  have hF : ρ.z.F = esc.Φ := kn.F
  simp only [h_nil, h_cons, d_le, d_eq, d_not, d_var, d_lit, d_cel, d_leq, d_fn, d_and, d_iff, IE.den, LE.den, AL.den, lenV, true_and, and_true, pcchgN_10, pcchgN_7, pcchgN_5, pcchgN_3, pcchgN_2, pcchgN_1, pcchgN_0, hF, pi1, pi2, pi3, pl2] at hp
  obtain ⟨p1, p2, p3, p4, p5, p6, p7, p8⟩ := hp
  refine all_cons (show (clampK .i64 (ρ.z.F.i 1 [.int .i64 (ρ.i .i64 1), .int .i64 (ρ.i .i64 2), .int .u64 (ρ.i .u64 3), .int .i64 (ρ.i .i64 4)])) = (142 : Int) from ?_) (all_nil)
  all_goals try simp only [hF, pi1, pi2, pi3, pl2]
  all_goals
    have k := err_cases (ρ.i .i64 1) (ρ.i .i64 2) (ρ.i .u64 3) (ρ.i .i64 4)
    simp only [err_in] at *
    omega
theorem vcchgN_6 : VD TTchgN (st0 cChgN) wchgN_6 := by
  intro ρ kn hp
  have hF : ρ.z.F = esc.Φ := kn.F
  simp only [h_nil, h_cons, d_le, d_eq, d_not, d_var, d_lit, d_cel, d_leq, d_fn, d_and, d_iff, IE.den, LE.den, AL.den, lenV, true_and, and_true, pcchgN_10, pcchgN_7, pcchgN_5, pcchgN_3, pcchgN_2, pcchgN_1, pcchgN_0, hF, pi1, pi2, pi3, pl2] at hp
  obtain ⟨p1, p2, p3, p4, p5, p6, p7, p8⟩ := hp
  refine all_cons (show (0 : Int) = ((ρ.i .i64 1) - (((-1 : Int) - (ρ.i .i64 4)) + (1 : Int))) from ?_) (all_cons (show (0 : Int) = (ρ.i .i64 2) from ?_) (all_cons (show (0 : Int) = ((ρ.i .u64 3) + (1 : Int)) from ?_) (all_cons (show (clampK .i64 (ρ.z.F.i 1 [.int .i64 (ρ.i .i64 1), .int .i64 (ρ.i .i64 2), .int .u64 (ρ.i .u64 3), .int .i64 (ρ.i .i64 4)])) = (0 : Int) from ?_) (all_nil))))
  all_goals try simp only [hF, pi1, pi2, pi3, pl2]
  all_goals
    have k := err_cases (ρ.i .i64 1) (ρ.i .i64 2) (ρ.i .u64 3) (ρ.i .i64 4)
    simp only [err_in] at *
    omega
theorem vcchgN_7 : VD TTchgN (st0 cChgN) wchgN_7 := by
  intro ρ kn hp
  have hF : ρ.z.F = esc.Φ := kn.F
  simp only [h_nil, h_cons, d_le, d_eq, d_not, d_var, d_lit, d_cel, d_leq, d_fn, d_and, d_iff, IE.den, LE.den, AL.den, lenV, true_and, and_true, pcchgN_7, pcchgN_5, pcchgN_3, pcchgN_2, pcchgN_1, pcchgN_0, hF, pi1, pi2, pi3, pl2] at hp
  obtain ⟨p1, p2, p3, p4, p5, p6, p7⟩ := hp
  refine all_cons (show (clampK .i64 (ρ.z.F.i 1 [.int .i64 (ρ.i .i64 1), .int .i64 (ρ.i .i64 2), .int .u64 (ρ.i .u64 3), .int .i64 (ρ.i .i64 4)])) = (140 : Int) from ?_) (all_nil)
  all_goals try simp only [hF, pi1, pi2, pi3, pl2]
  all_goals
    have k := err_cases (ρ.i .i64 1) (ρ.i .i64 2) (ρ.i .u64 3) (ρ.i .i64 4)
    simp only [err_in] at *
    omega
theorem vcchgN_8 : VD TTchgN (st0 cChgN) wchgN_8 := by
  intro ρ kn hp
  have hF : ρ.z.F = esc.Φ := kn.F
  simp only [h_nil, h_cons, d_le, d_eq, d_not, d_var, d_lit, d_cel, d_leq, d_fn, d_and, d_iff, IE.den, LE.den, AL.den, lenV, true_and, and_true, pcchgN_13, pcchgN_11, pcchgN_8, pcchgN_5, pcchgN_3, pcchgN_2, pcchgN_1, pcchgN_0, hF, pi1, pi2, pi3, pl2] at hp
  obtain ⟨p1, p2, p3, p4, p5, p6, p7, p8, p9⟩ := hp
  refine all_cons (show (clampK .i64 (ρ.z.F.i 1 [.int .i64 (ρ.i .i64 1), .int .i64 (ρ.i .i64 2), .int .u64 (ρ.i .u64 3), .int .i64 (ρ.i .i64 4)])) = (142 : Int) from ?_) (all_nil)
  all_goals try simp only [hF, pi1, pi2, pi3, pl2]
  all_goals
    have k := err_cases (ρ.i .i64 1) (ρ.i .i64 2) (ρ.i .u64 3) (ρ.i .i64 4)
    simp only [err_in] at *
    omega
theorem vcchgN_9 : VD TTchgN (st0 cChgN) wchgN_9 := by
  intro ρ kn hp
  have hF : ρ.z.F = esc.Φ := kn.F
  simp only [h_nil, h_cons, d_le, d_eq, d_not, d_var, d_lit, d_cel, d_leq, d_fn, d_and, d_iff, IE.den, LE.den, AL.den, lenV, true_and, and_true, pcchgN_15, pcchgN_13, pcchgN_11, pcchgN_8, pcchgN_5, pcchgN_3, pcchgN_2, pcchgN_1, pcchgN_0, hF, pi1, pi2, pi3, pl2] at hp
  obtain ⟨p1, p2, p3, p4, p5, p6, p7, p8, p9, p10⟩ := hp
  refine all_cons (show (0 : Int) = ((ρ.i .i64 1) - (((-1 : Int) - (ρ.i .i64 4)) + (1 : Int))) from ?_) (all_cons (show (0 : Int) = (ρ.i .i64 2) from ?_) (all_cons (show (0 : Int) = ((ρ.i .u64 3) + (1 : Int)) from ?_) (all_cons (show (clampK .i64 (ρ.z.F.i 1 [.int .i64 (ρ.i .i64 1), .int .i64 (ρ.i .i64 2), .int .u64 (ρ.i .u64 3), .int .i64 (ρ.i .i64 4)])) = (0 : Int) from ?_) (all_nil))))
  all_goals try simp only [hF, pi1, pi2, pi3, pl2]
  all_goals
    have k := err_cases (ρ.i .i64 1) (ρ.i .i64 2) (ρ.i .u64 3) (ρ.i .i64 4)
    simp only [err_in] at *
    omega
theorem vcchgN_10 : VD TTchgN (st0 cChgN) wchgN_10 := by
  intro ρ kn hp
  have hF : ρ.z.F = esc.Φ := kn.F
  simp only [h_nil, h_cons, d_le, d_eq, d_not, d_var, d_lit, d_cel, d_leq, d_fn, d_and, d_iff, IE.den, LE.den, AL.den, lenV, true_and, and_true, pcchgN_15, pcchgN_13, pcchgN_11, pcchgN_8, pcchgN_5, pcchgN_3, pcchgN_2, pcchgN_1, pcchgN_0, hF, pi1, pi2, pi3, pl2] at hp
  obtain ⟨p1, p2, p3, p4, p5, p6, p7, p8, p9, p10⟩ := hp
  refine all_cons (show (0 : Int) = (((ρ.i .i64 1) - (9223372036854775807 : Int)) - ((((-1 : Int) - (ρ.i .i64 4)) + (1 : Int)) - (9223372036854775807 : Int))) from ?_) (all_cons (show (0 : Int) = (ρ.i .i64 2) from ?_) (all_cons (show (0 : Int) = ((ρ.i .u64 3) + (1 : Int)) from ?_) (all_cons (show (clampK .i64 (ρ.z.F.i 1 [.int .i64 (ρ.i .i64 1), .int .i64 (ρ.i .i64 2), .int .u64 (ρ.i .u64 3), .int .i64 (ρ.i .i64 4)])) = (0 : Int) from ?_) (all_nil))))
  all_goals try simp only [hF, pi1, pi2, pi3, pl2]
  all_goals
    have k := err_cases (ρ.i .i64 1) (ρ.i .i64 2) (ρ.i .u64 3) (ρ.i .i64 4)
    simp only [err_in] at *
    omega
theorem vcchgN_11 : VD TTchgN (st0 cChgN) wchgN_11 := by
  intro ρ kn hp
  have hF : ρ.z.F = esc.Φ := kn.F
  simp only [h_nil, h_cons, d_le, d_eq, d_not, d_var, d_lit, d_cel, d_leq, d_fn, d_and, d_iff, IE.den, LE.den, AL.den, lenV, true_and, and_true, pcchgN_11, pcchgN_8, pcchgN_5, pcchgN_3, pcchgN_2, pcchgN_1, pcchgN_0, hF, pi1, pi2, pi3, pl2] at hp
  obtain ⟨p1, p2, p3, p4, p5, p6, p7, p8⟩ := hp
  refine all_cons (show (clampK .i64 (ρ.z.F.i 1 [.int .i64 (ρ.i .i64 1), .int .i64 (ρ.i .i64 2), .int .u64 (ρ.i .u64 3), .int .i64 (ρ.i .i64 4)])) = (140 : Int) from ?_) (all_nil)
  all_goals try simp only [hF, pi1, pi2, pi3, pl2]
  all_goals
    have k := err_cases (ρ.i .i64 1) (ρ.i .i64 2) (ρ.i .u64 3) (ρ.i .i64 4)
    simp only [err_in] at *
    omega
theorem vcchgN_12 : VD TTchgN (st0 cChgN) wchgN_12 := by
  intro ρ kn hp
  have hF : ρ.z.F = esc.Φ := kn.F
  simp only [h_nil, h_cons, d_le, d_eq, d_not, d_var, d_lit, d_cel, d_leq, d_fn, d_and, d_iff, IE.den, LE.den, AL.den, lenV, true_and, and_true, pcchgN_14, pcchgN_12, pcchgN_8, pcchgN_5, pcchgN_3, pcchgN_2, pcchgN_1, pcchgN_0, hF, pi1, pi2, pi3, pl2] at hp
  obtain ⟨p1, p2, p3, p4, p5, p6, p7, p8, p9⟩ := hp
  refine all_cons (show (clampK .i64 (ρ.z.F.i 1 [.int .i64 (ρ.i .i64 1), .int .i64 (ρ.i .i64 2), .int .u64 (ρ.i .u64 3), .int .i64 (ρ.i .i64 4)])) = (142 : Int) from ?_) (all_nil)
  all_goals try simp only [hF, pi1, pi2, pi3, pl2]
  all_goals
    have k := err_cases (ρ.i .i64 1) (ρ.i .i64 2) (ρ.i .u64 3) (ρ.i .i64 4)
    simp only [err_in] at *
    omega
theorem vcchgN_13 : VD TTchgN (st0 cChgN) wchgN_13 := by
  intro ρ kn hp
  have hF : ρ.z.F = esc.Φ := kn.F
  simp only [h_nil, h_cons, d_le, d_eq, d_not, d_var, d_lit, d_cel, d_leq, d_fn, d_and, d_iff, IE.den, LE.den, AL.den, lenV, true_and, and_true, pcchgN_14, pcchgN_12, pcchgN_8, pcchgN_5, pcchgN_3, pcchgN_2, pcchgN_1, pcchgN_0, hF, pi1, pi2, pi3, pl2] at hp
  obtain ⟨p1, p2, p3, p4, p5, p6, p7, p8, p9⟩ := hp
  refine all_cons (show (0 : Int) = ((ρ.i .i64 1) - (((-1 : Int) - (ρ.i .i64 4)) + (1 : Int))) from ?_) (all_cons (show (0 : Int) = (ρ.i .i64 2) from ?_) (all_cons (show (0 : Int) = ((ρ.i .u64 3) + (1 : Int)) from ?_) (all_cons (show (clampK .i64 (ρ.z.F.i 1 [.int .i64 (ρ.i .i64 1), .int .i64 (ρ.i .i64 2), .int .u64 (ρ.i .u64 3), .int .i64 (ρ.i .i64 4)])) = (0 : Int) from ?_) (all_nil))))
  all_goals try simp only [hF, pi1, pi2, pi3, pl2]
  all_goals
    have k := err_cases (ρ.i .i64 1) (ρ.i .i64 2) (ρ.i .u64 3) (ρ.i .i64 4)
    simp only [err_in] at *
    omega
theorem vcchgN_14 : VD TTchgN (st0 cChgN) wchgN_14 := by
  intro ρ kn hp
  have hF : ρ.z.F = esc.Φ := kn.F
  simp only [h_nil, h_cons, d_le, d_eq, d_not, d_var, d_lit, d_cel, d_leq, d_fn, d_and, d_iff, IE.den, LE.den, AL.den, lenV, true_and, and_true, pcchgN_12, pcchgN_8, pcchgN_5, pcchgN_3, pcchgN_2, pcchgN_1, pcchgN_0, hF, pi1, pi2, pi3, pl2] at hp
  obtain ⟨p1, p2, p3, p4, p5, p6, p7, p8⟩ := hp
  refine all_cons (show (clampK .i64 (ρ.z.F.i 1 [.int .i64 (ρ.i .i64 1), .int .i64 (ρ.i .i64 2), .int .u64 (ρ.i .u64 3), .int .i64 (ρ.i .i64 4)])) = (140 : Int) from ?_) (all_nil)
  all_goals try simp only [hF, pi1, pi2, pi3, pl2]
  all_goals
    have k := err_cases (ρ.i .i64 1) (ρ.i .i64 2) (ρ.i .u64 3) (ρ.i .i64 4)
    simp only [err_in] at *
    omega
theorem vcchgN_15 : VD TTchgN (st0 cChgN) wchgN_15 := by
  intro ρ kn hp
  have hF : ρ.z.F = esc.Φ := kn.F
  simp only [h_nil, h_cons, d_le, d_eq, d_not, d_var, d_lit, d_cel, d_leq, d_fn, d_and, d_iff, IE.den, LE.den, AL.den, lenV, true_and, and_true, pcchgN_1, pcchgN_0, hF, pi1, pi2, pi3, pl2] at hp
  obtain ⟨p1, p2, p3⟩ := hp
  refine all_cons (show (clampK .i64 (ρ.z.F.i 1 [.int .i64 (ρ.i .i64 1), .int .i64 (ρ.i .i64 2), .int .u64 (ρ.i .u64 3), .int .i64 (ρ.i .i64 4)])) = (2 : Int) from ?_) (all_nil)
  all_goals try simp only [hF, pi1, pi2, pi3, pl2]
  all_goals
    have k := err_cases (ρ.i .i64 1) (ρ.i .i64 2) (ρ.i .u64 3) (ρ.i .i64 4)
    simp only [err_in] at *
    omega
theorem vcchgN_16 : VD TTchgN (st0 cChgN) wchgN_16 := by
  intro ρ kn hp
  have hF : ρ.z.F = esc.Φ := kn.F
  simp only [h_nil, h_cons, d_le, d_eq, d_not, d_var, d_lit, d_cel, d_leq, d_fn, d_and, d_iff, IE.den, LE.den, AL.den, lenV, true_and, and_true, pcchgN_0, hF, pi1, pi2, pi3, pl2] at hp
  obtain ⟨p1, p2⟩ := hp
  refine all_cons (show (clampK .i64 (ρ.z.F.i 1 [.int .i64 (ρ.i .i64 1), .int .i64 (ρ.i .i64 2), .int .u64 (ρ.i .u64 3), .int .i64 (ρ.i .i64 4)])) = (2 : Int) from ?_) (all_nil)
  all_goals try simp only [hF, pi1, pi2, pi3, pl2]
  all_goals
    have k := err_cases (ρ.i .i64 1) (ρ.i .i64 2) (ρ.i .u64 3) (ρ.i .i64 4)
    simp only [err_in] at *
    omega
theorem told_chgN : Sx.Told esc.Φ cChgN := told_vw (cs := []) (all_nil) 9000 vwchgN (by kernel_rfl) (by kernel_rfl) (by kernel_rfl) (post_nil rfl) (by kernel_rfl) (by kernel_rfl) (all_cons vcchgN_0 (all_cons vcchgN_1 (all_cons vcchgN_2 (all_cons vcchgN_3 (all_cons vcchgN_4 (all_cons vcchgN_5 (all_cons vcchgN_6 (all_cons vcchgN_7 (all_cons vcchgN_8 (all_cons vcchgN_9 (all_cons vcchgN_10 (all_cons vcchgN_11 (all_cons vcchgN_12 (all_cons vcchgN_13 (all_cons vcchgN_14 (all_cons vcchgN_15 (all_cons vcchgN_16 (all_nil))))))))))))))))))
end Go.Proofs.Ytdfgidogiacmnaa.esc
