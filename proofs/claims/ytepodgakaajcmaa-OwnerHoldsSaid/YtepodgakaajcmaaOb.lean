/- Layer owner: what may be. No condition. -/
import Derived.Test.YtepodgakaajcmaaOa
set_option linter.unusedVariables false
set_option linter.unusedSimpArgs false
set_option linter.deprecated false
namespace Go.Proofs.Ytepodgakaajcmaa.own
open Go Go.Proofs.Ytepodgakaajcmaa.Sx
noncomputable section
def wframe_0 : VW := (VW.done [(BE.le (IE.var .i64 3) (IE.lit 4)), (BE.le (IE.var .i64 2) (IE.lit 8)), (BE.le (IE.var .i64 1) (IE.lit 64)), (BE.le (IE.lit 1) (IE.var .i64 3)), (BE.le (IE.lit 1) (IE.var .i64 2)), (BE.le (IE.lit 1) (IE.var .i64 1)), (BE.lit true)] (some [(G.b (BE.and (BE.le (IE.lit 1) (IE.var .i64 1)) (BE.and (BE.le (IE.var .i64 1) (IE.lit 64)) (BE.fn 1 (AL.int .i64 (IE.var .i64 2) (AL.int .i64 (IE.var .i64 3) AL.nil))))) (BE.lit true))]))
def wframe_1 : VW := (VW.done [(BE.not (BE.le (IE.var .i64 3) (IE.lit 4))), (BE.le (IE.var .i64 2) (IE.lit 8)), (BE.le (IE.var .i64 1) (IE.lit 64)), (BE.le (IE.lit 1) (IE.var .i64 3)), (BE.le (IE.lit 1) (IE.var .i64 2)), (BE.le (IE.lit 1) (IE.var .i64 1)), (BE.lit true)] (some [(G.b (BE.and (BE.le (IE.lit 1) (IE.var .i64 1)) (BE.and (BE.le (IE.var .i64 1) (IE.lit 64)) (BE.fn 1 (AL.int .i64 (IE.var .i64 2) (AL.int .i64 (IE.var .i64 3) AL.nil))))) (BE.lit false))]))
def wframe_2 : VW := (VW.done [(BE.not (BE.le (IE.var .i64 2) (IE.lit 8))), (BE.le (IE.var .i64 1) (IE.lit 64)), (BE.le (IE.lit 1) (IE.var .i64 3)), (BE.le (IE.lit 1) (IE.var .i64 2)), (BE.le (IE.lit 1) (IE.var .i64 1)), (BE.lit true)] (some [(G.b (BE.and (BE.le (IE.lit 1) (IE.var .i64 1)) (BE.and (BE.le (IE.var .i64 1) (IE.lit 64)) (BE.fn 1 (AL.int .i64 (IE.var .i64 2) (AL.int .i64 (IE.var .i64 3) AL.nil))))) (BE.lit false))]))
def wframe_3 : VW := (VW.done [(BE.not (BE.le (IE.var .i64 1) (IE.lit 64))), (BE.le (IE.lit 1) (IE.var .i64 3)), (BE.le (IE.lit 1) (IE.var .i64 2)), (BE.le (IE.lit 1) (IE.var .i64 1)), (BE.lit true)] (some []))
def wframe_4 : VW := (VW.done [(BE.le (IE.var .i64 2) (IE.lit 8)), (BE.le (IE.var .i64 1) (IE.lit 64)), (BE.not (BE.le (IE.lit 1) (IE.var .i64 3))), (BE.le (IE.lit 1) (IE.var .i64 2)), (BE.le (IE.lit 1) (IE.var .i64 1)), (BE.lit true)] (some [(G.b (BE.and (BE.le (IE.lit 1) (IE.var .i64 1)) (BE.and (BE.le (IE.var .i64 1) (IE.lit 64)) (BE.fn 1 (AL.int .i64 (IE.var .i64 2) (AL.int .i64 (IE.var .i64 3) AL.nil))))) (BE.lit false))]))
def wframe_5 : VW := (VW.done [(BE.not (BE.le (IE.var .i64 2) (IE.lit 8))), (BE.le (IE.var .i64 1) (IE.lit 64)), (BE.not (BE.le (IE.lit 1) (IE.var .i64 3))), (BE.le (IE.lit 1) (IE.var .i64 2)), (BE.le (IE.lit 1) (IE.var .i64 1)), (BE.lit true)] (some [(G.b (BE.and (BE.le (IE.lit 1) (IE.var .i64 1)) (BE.and (BE.le (IE.var .i64 1) (IE.lit 64)) (BE.fn 1 (AL.int .i64 (IE.var .i64 2) (AL.int .i64 (IE.var .i64 3) AL.nil))))) (BE.lit false))]))
def wframe_6 : VW := (VW.done [(BE.not (BE.le (IE.var .i64 1) (IE.lit 64))), (BE.not (BE.le (IE.lit 1) (IE.var .i64 3))), (BE.le (IE.lit 1) (IE.var .i64 2)), (BE.le (IE.lit 1) (IE.var .i64 1)), (BE.lit true)] (some []))
def wframe_7 : VW := (VW.done [(BE.le (IE.var .i64 1) (IE.lit 64)), (BE.le (IE.lit 1) (IE.var .i64 3)), (BE.not (BE.le (IE.lit 1) (IE.var .i64 2))), (BE.le (IE.lit 1) (IE.var .i64 1)), (BE.lit true)] (some [(G.b (BE.and (BE.le (IE.lit 1) (IE.var .i64 1)) (BE.and (BE.le (IE.var .i64 1) (IE.lit 64)) (BE.fn 1 (AL.int .i64 (IE.var .i64 2) (AL.int .i64 (IE.var .i64 3) AL.nil))))) (BE.lit false))]))
def wframe_8 : VW := (VW.done [(BE.not (BE.le (IE.var .i64 1) (IE.lit 64))), (BE.le (IE.lit 1) (IE.var .i64 3)), (BE.not (BE.le (IE.lit 1) (IE.var .i64 2))), (BE.le (IE.lit 1) (IE.var .i64 1)), (BE.lit true)] (some []))
def wframe_9 : VW := (VW.done [(BE.le (IE.var .i64 1) (IE.lit 64)), (BE.not (BE.le (IE.lit 1) (IE.var .i64 3))), (BE.not (BE.le (IE.lit 1) (IE.var .i64 2))), (BE.le (IE.lit 1) (IE.var .i64 1)), (BE.lit true)] (some [(G.b (BE.and (BE.le (IE.lit 1) (IE.var .i64 1)) (BE.and (BE.le (IE.var .i64 1) (IE.lit 64)) (BE.fn 1 (AL.int .i64 (IE.var .i64 2) (AL.int .i64 (IE.var .i64 3) AL.nil))))) (BE.lit false))]))
def wframe_10 : VW := (VW.done [(BE.not (BE.le (IE.var .i64 1) (IE.lit 64))), (BE.not (BE.le (IE.lit 1) (IE.var .i64 3))), (BE.not (BE.le (IE.lit 1) (IE.var .i64 2))), (BE.le (IE.lit 1) (IE.var .i64 1)), (BE.lit true)] (some []))
def wframe_11 : VW := (VW.done [(BE.le (IE.lit 1) (IE.var .i64 3)), (BE.le (IE.lit 1) (IE.var .i64 2)), (BE.not (BE.le (IE.lit 1) (IE.var .i64 1))), (BE.lit true)] (some []))
def wframe_12 : VW := (VW.done [(BE.not (BE.le (IE.lit 1) (IE.var .i64 3))), (BE.le (IE.lit 1) (IE.var .i64 2)), (BE.not (BE.le (IE.lit 1) (IE.var .i64 1))), (BE.lit true)] (some []))
def wframe_13 : VW := (VW.done [(BE.le (IE.lit 1) (IE.var .i64 3)), (BE.not (BE.le (IE.lit 1) (IE.var .i64 2))), (BE.not (BE.le (IE.lit 1) (IE.var .i64 1))), (BE.lit true)] (some []))
def wframe_14 : VW := (VW.done [(BE.not (BE.le (IE.lit 1) (IE.var .i64 3))), (BE.not (BE.le (IE.lit 1) (IE.var .i64 2))), (BE.not (BE.le (IE.lit 1) (IE.var .i64 1))), (BE.lit true)] (some []))
def vwframe : List VW := [wframe_0, wframe_1, wframe_2, wframe_3, wframe_4, wframe_5, wframe_6, wframe_7, wframe_8, wframe_9, wframe_10, wframe_11, wframe_12, wframe_13, wframe_14]
end
theorem vcframe_0 : VD (T own.Φ cFrame.roms []) (st0 cFrame) wframe_0 := by
  intro ρ kn hp
  have hF : ρ.z.F = own.Φ := kn.F
  simp only [h_nil, h_cons, d_le, d_eq, d_not, d_var, d_lit, d_cel, d_leq, d_fn, d_and, d_iff, IE.den, LE.den, AL.den, lenV, true_and, and_true, hF, pb1, pb2, pb3] at hp
  obtain ⟨p1, p2, p3, p4, p5, p6⟩ := hp
  refine all_cons (show ((decide ((1 : Int) ≤ (ρ.i .i64 1))) && ((decide ((ρ.i .i64 1) ≤ (64 : Int))) && (ρ.z.F.b 1 [.int .i64 (ρ.i .i64 2), .int .i64 (ρ.i .i64 3)]))) = true from ?_) (all_nil)
  all_goals try simp only [hF, pb1, pb2, pb3]
  all_goals first | omega | skip
  all_goals
    apply beq_of
    simp only [ls_iff, hop_iff, decide_eq_true_eq, Bool.and_eq_true, Bool.not_eq_true', Bool.false_eq_true, true_iff, iff_true, false_iff, iff_false, decide_eq_false_iff_not] at *
    omega
theorem vcframe_1 : VD (T own.Φ cFrame.roms []) (st0 cFrame) wframe_1 := by
  intro ρ kn hp
  have hF : ρ.z.F = own.Φ := kn.F
  simp only [h_nil, h_cons, d_le, d_eq, d_not, d_var, d_lit, d_cel, d_leq, d_fn, d_and, d_iff, IE.den, LE.den, AL.den, lenV, true_and, and_true, hF, pb1, pb2, pb3] at hp
  obtain ⟨p1, p2, p3, p4, p5, p6⟩ := hp
  refine all_cons (show ((decide ((1 : Int) ≤ (ρ.i .i64 1))) && ((decide ((ρ.i .i64 1) ≤ (64 : Int))) && (ρ.z.F.b 1 [.int .i64 (ρ.i .i64 2), .int .i64 (ρ.i .i64 3)]))) = false from ?_) (all_nil)
  all_goals try simp only [hF, pb1, pb2, pb3]
  all_goals first | omega | skip
  all_goals
    apply beq_of
    simp only [ls_iff, hop_iff, decide_eq_true_eq, Bool.and_eq_true, Bool.not_eq_true', Bool.false_eq_true, true_iff, iff_true, false_iff, iff_false, decide_eq_false_iff_not] at *
    omega
theorem vcframe_2 : VD (T own.Φ cFrame.roms []) (st0 cFrame) wframe_2 := by
  intro ρ kn hp
  have hF : ρ.z.F = own.Φ := kn.F
  simp only [h_nil, h_cons, d_le, d_eq, d_not, d_var, d_lit, d_cel, d_leq, d_fn, d_and, d_iff, IE.den, LE.den, AL.den, lenV, true_and, and_true, hF, pb1, pb2, pb3] at hp
  obtain ⟨p1, p2, p3, p4, p5⟩ := hp
  refine all_cons (show ((decide ((1 : Int) ≤ (ρ.i .i64 1))) && ((decide ((ρ.i .i64 1) ≤ (64 : Int))) && (ρ.z.F.b 1 [.int .i64 (ρ.i .i64 2), .int .i64 (ρ.i .i64 3)]))) = false from ?_) (all_nil)
  all_goals try simp only [hF, pb1, pb2, pb3]
  all_goals first | omega | skip
  all_goals
    apply beq_of
    simp only [ls_iff, hop_iff, decide_eq_true_eq, Bool.and_eq_true, Bool.not_eq_true', Bool.false_eq_true, true_iff, iff_true, false_iff, iff_false, decide_eq_false_iff_not] at *
    omega
theorem vcframe_3 : VD (T own.Φ cFrame.roms []) (st0 cFrame) wframe_3 := by
  intro ρ kn hp
  exact all_nil
theorem vcframe_4 : VD (T own.Φ cFrame.roms []) (st0 cFrame) wframe_4 := by
  intro ρ kn hp
  have hF : ρ.z.F = own.Φ := kn.F
  simp only [h_nil, h_cons, d_le, d_eq, d_not, d_var, d_lit, d_cel, d_leq, d_fn, d_and, d_iff, IE.den, LE.den, AL.den, lenV, true_and, and_true, hF, pb1, pb2, pb3] at hp
  obtain ⟨p1, p2, p3, p4, p5⟩ := hp
  refine all_cons (show ((decide ((1 : Int) ≤ (ρ.i .i64 1))) && ((decide ((ρ.i .i64 1) ≤ (64 : Int))) && (ρ.z.F.b 1 [.int .i64 (ρ.i .i64 2), .int .i64 (ρ.i .i64 3)]))) = false from ?_) (all_nil)
  all_goals try simp only [hF, pb1, pb2, pb3]
  all_goals first | omega | skip
  all_goals
    apply beq_of
    simp only [ls_iff, hop_iff, decide_eq_true_eq, Bool.and_eq_true, Bool.not_eq_true', Bool.false_eq_true, true_iff, iff_true, false_iff, iff_false, decide_eq_false_iff_not] at *
    omega
theorem vcframe_5 : VD (T own.Φ cFrame.roms []) (st0 cFrame) wframe_5 := by
  intro ρ kn hp
  have hF : ρ.z.F = own.Φ := kn.F
  simp only [h_nil, h_cons, d_le, d_eq, d_not, d_var, d_lit, d_cel, d_leq, d_fn, d_and, d_iff, IE.den, LE.den, AL.den, lenV, true_and, and_true, hF, pb1, pb2, pb3] at hp
  obtain ⟨p1, p2, p3, p4, p5⟩ := hp
  refine all_cons (show ((decide ((1 : Int) ≤ (ρ.i .i64 1))) && ((decide ((ρ.i .i64 1) ≤ (64 : Int))) && (ρ.z.F.b 1 [.int .i64 (ρ.i .i64 2), .int .i64 (ρ.i .i64 3)]))) = false from ?_) (all_nil)
  all_goals try simp only [hF, pb1, pb2, pb3]
  all_goals first | omega | skip
  all_goals
    apply beq_of
    simp only [ls_iff, hop_iff, decide_eq_true_eq, Bool.and_eq_true, Bool.not_eq_true', Bool.false_eq_true, true_iff, iff_true, false_iff, iff_false, decide_eq_false_iff_not] at *
    omega
theorem vcframe_6 : VD (T own.Φ cFrame.roms []) (st0 cFrame) wframe_6 := by
  intro ρ kn hp
  exact all_nil
theorem vcframe_7 : VD (T own.Φ cFrame.roms []) (st0 cFrame) wframe_7 := by
  intro ρ kn hp
  have hF : ρ.z.F = own.Φ := kn.F
  simp only [h_nil, h_cons, d_le, d_eq, d_not, d_var, d_lit, d_cel, d_leq, d_fn, d_and, d_iff, IE.den, LE.den, AL.den, lenV, true_and, and_true, hF, pb1, pb2, pb3] at hp
  obtain ⟨p1, p2, p3, p4⟩ := hp
  refine all_cons (show ((decide ((1 : Int) ≤ (ρ.i .i64 1))) && ((decide ((ρ.i .i64 1) ≤ (64 : Int))) && (ρ.z.F.b 1 [.int .i64 (ρ.i .i64 2), .int .i64 (ρ.i .i64 3)]))) = false from ?_) (all_nil)
  all_goals try simp only [hF, pb1, pb2, pb3]
  all_goals first | omega | skip
  all_goals
    apply beq_of
    simp only [ls_iff, hop_iff, decide_eq_true_eq, Bool.and_eq_true, Bool.not_eq_true', Bool.false_eq_true, true_iff, iff_true, false_iff, iff_false, decide_eq_false_iff_not] at *
    omega
theorem vcframe_8 : VD (T own.Φ cFrame.roms []) (st0 cFrame) wframe_8 := by
  intro ρ kn hp
  exact all_nil
theorem vcframe_9 : VD (T own.Φ cFrame.roms []) (st0 cFrame) wframe_9 := by
  intro ρ kn hp
  have hF : ρ.z.F = own.Φ := kn.F
  simp only [h_nil, h_cons, d_le, d_eq, d_not, d_var, d_lit, d_cel, d_leq, d_fn, d_and, d_iff, IE.den, LE.den, AL.den, lenV, true_and, and_true, hF, pb1, pb2, pb3] at hp
  obtain ⟨p1, p2, p3, p4⟩ := hp
  refine all_cons (show ((decide ((1 : Int) ≤ (ρ.i .i64 1))) && ((decide ((ρ.i .i64 1) ≤ (64 : Int))) && (ρ.z.F.b 1 [.int .i64 (ρ.i .i64 2), .int .i64 (ρ.i .i64 3)]))) = false from ?_) (all_nil)
  all_goals try simp only [hF, pb1, pb2, pb3]
  all_goals first | omega | skip
  all_goals
    apply beq_of
    simp only [ls_iff, hop_iff, decide_eq_true_eq, Bool.and_eq_true, Bool.not_eq_true', Bool.false_eq_true, true_iff, iff_true, false_iff, iff_false, decide_eq_false_iff_not] at *
    omega
theorem vcframe_10 : VD (T own.Φ cFrame.roms []) (st0 cFrame) wframe_10 := by
  intro ρ kn hp
  exact all_nil
theorem vcframe_11 : VD (T own.Φ cFrame.roms []) (st0 cFrame) wframe_11 := by
  intro ρ kn hp
  exact all_nil
theorem vcframe_12 : VD (T own.Φ cFrame.roms []) (st0 cFrame) wframe_12 := by
  intro ρ kn hp
  exact all_nil
theorem vcframe_13 : VD (T own.Φ cFrame.roms []) (st0 cFrame) wframe_13 := by
  intro ρ kn hp
  exact all_nil
theorem vcframe_14 : VD (T own.Φ cFrame.roms []) (st0 cFrame) wframe_14 := by
  intro ρ kn hp
  exact all_nil
theorem told_frame : Sx.Told own.Φ cFrame := told_vw (cs := []) (all_nil) 4000 vwframe (by kernel_rfl) (by kernel_rfl) (by kernel_rfl) (post_nil rfl) (by kernel_rfl) (by kernel_rfl) (all_cons vcframe_0 (all_cons vcframe_1 (all_cons vcframe_2 (all_cons vcframe_3 (all_cons vcframe_4 (all_cons vcframe_5 (all_cons vcframe_6 (all_cons vcframe_7 (all_cons vcframe_8 (all_cons vcframe_9 (all_cons vcframe_10 (all_cons vcframe_11 (all_cons vcframe_12 (all_cons vcframe_13 (all_cons vcframe_14 (all_nil))))))))))))))))
noncomputable section
def wsi_0 : VW := (VW.done [(BE.le (IE.lit 1) (IE.var .i64 3)), (BE.le (IE.var .i64 2) (IE.lit 8)), (BE.le (IE.lit 1) (IE.var .i64 2)), (BE.le (IE.var .i64 1) (IE.lit 64)), (BE.le (IE.lit 1) (IE.var .i64 1)), (BE.lit true)] (some [(G.b (BE.and (BE.le (IE.lit 1) (IE.var .i64 1)) (BE.and (BE.le (IE.var .i64 1) (IE.lit 64)) (BE.fn 1 (AL.int .i64 (IE.var .i64 2) (AL.int .i64 (IE.var .i64 3) AL.nil))))) (BE.le (IE.var .i64 3) (IE.lit 4)))]))
def wsi_1 : VW := (VW.done [(BE.not (BE.le (IE.lit 1) (IE.var .i64 3))), (BE.le (IE.var .i64 2) (IE.lit 8)), (BE.le (IE.lit 1) (IE.var .i64 2)), (BE.le (IE.var .i64 1) (IE.lit 64)), (BE.le (IE.lit 1) (IE.var .i64 1)), (BE.lit true)] (some [(G.b (BE.and (BE.le (IE.lit 1) (IE.var .i64 1)) (BE.and (BE.le (IE.var .i64 1) (IE.lit 64)) (BE.fn 1 (AL.int .i64 (IE.var .i64 2) (AL.int .i64 (IE.var .i64 3) AL.nil))))) (BE.lit false))]))
def wsi_2 : VW := (VW.done [(BE.not (BE.le (IE.var .i64 2) (IE.lit 8))), (BE.le (IE.lit 1) (IE.var .i64 2)), (BE.le (IE.var .i64 1) (IE.lit 64)), (BE.le (IE.lit 1) (IE.var .i64 1)), (BE.lit true)] (some [(G.b (BE.and (BE.le (IE.lit 1) (IE.var .i64 1)) (BE.and (BE.le (IE.var .i64 1) (IE.lit 64)) (BE.fn 1 (AL.int .i64 (IE.var .i64 2) (AL.int .i64 (IE.var .i64 3) AL.nil))))) (BE.lit false))]))
def wsi_3 : VW := (VW.done [(BE.not (BE.le (IE.lit 1) (IE.var .i64 2))), (BE.le (IE.var .i64 1) (IE.lit 64)), (BE.le (IE.lit 1) (IE.var .i64 1)), (BE.lit true)] (some [(G.b (BE.and (BE.le (IE.lit 1) (IE.var .i64 1)) (BE.and (BE.le (IE.var .i64 1) (IE.lit 64)) (BE.fn 1 (AL.int .i64 (IE.var .i64 2) (AL.int .i64 (IE.var .i64 3) AL.nil))))) (BE.lit false))]))
def wsi_4 : VW := (VW.done [(BE.not (BE.le (IE.var .i64 1) (IE.lit 64))), (BE.le (IE.lit 1) (IE.var .i64 1)), (BE.lit true)] (some []))
def wsi_5 : VW := (VW.done [(BE.not (BE.le (IE.lit 1) (IE.var .i64 1))), (BE.lit true)] (some []))
def vwsi : List VW := [wsi_0, wsi_1, wsi_2, wsi_3, wsi_4, wsi_5]
end
theorem vcsi_0 : VD (T own.Φ cSi.roms []) (st0 cSi) wsi_0 := by
  intro ρ kn hp
  have hF : ρ.z.F = own.Φ := kn.F
  simp only [h_nil, h_cons, d_le, d_eq, d_not, d_var, d_lit, d_cel, d_leq, d_fn, d_and, d_iff, IE.den, LE.den, AL.den, lenV, true_and, and_true, hF, pb1, pb2, pb3] at hp
  obtain ⟨p1, p2, p3, p4, p5⟩ := hp
  refine all_cons (show ((decide ((1 : Int) ≤ (ρ.i .i64 1))) && ((decide ((ρ.i .i64 1) ≤ (64 : Int))) && (ρ.z.F.b 1 [.int .i64 (ρ.i .i64 2), .int .i64 (ρ.i .i64 3)]))) = (decide ((ρ.i .i64 3) ≤ (4 : Int))) from ?_) (all_nil)
  all_goals try simp only [hF, pb1, pb2, pb3]
  all_goals first | omega | skip
  all_goals
    apply beq_of
    simp only [ls_iff, hop_iff, decide_eq_true_eq, Bool.and_eq_true, Bool.not_eq_true', Bool.false_eq_true, true_iff, iff_true, false_iff, iff_false, decide_eq_false_iff_not] at *
    omega
theorem vcsi_1 : VD (T own.Φ cSi.roms []) (st0 cSi) wsi_1 := by
  intro ρ kn hp
  have hF : ρ.z.F = own.Φ := kn.F
  simp only [h_nil, h_cons, d_le, d_eq, d_not, d_var, d_lit, d_cel, d_leq, d_fn, d_and, d_iff, IE.den, LE.den, AL.den, lenV, true_and, and_true, hF, pb1, pb2, pb3] at hp
  obtain ⟨p1, p2, p3, p4, p5⟩ := hp
  refine all_cons (show ((decide ((1 : Int) ≤ (ρ.i .i64 1))) && ((decide ((ρ.i .i64 1) ≤ (64 : Int))) && (ρ.z.F.b 1 [.int .i64 (ρ.i .i64 2), .int .i64 (ρ.i .i64 3)]))) = false from ?_) (all_nil)
  all_goals try simp only [hF, pb1, pb2, pb3]
  all_goals first | omega | skip
  all_goals
    apply beq_of
    simp only [ls_iff, hop_iff, decide_eq_true_eq, Bool.and_eq_true, Bool.not_eq_true', Bool.false_eq_true, true_iff, iff_true, false_iff, iff_false, decide_eq_false_iff_not] at *
    omega
theorem vcsi_2 : VD (T own.Φ cSi.roms []) (st0 cSi) wsi_2 := by
  intro ρ kn hp
  have hF : ρ.z.F = own.Φ := kn.F
  simp only [h_nil, h_cons, d_le, d_eq, d_not, d_var, d_lit, d_cel, d_leq, d_fn, d_and, d_iff, IE.den, LE.den, AL.den, lenV, true_and, and_true, hF, pb1, pb2, pb3] at hp
  obtain ⟨p1, p2, p3, p4⟩ := hp
  refine all_cons (show ((decide ((1 : Int) ≤ (ρ.i .i64 1))) && ((decide ((ρ.i .i64 1) ≤ (64 : Int))) && (ρ.z.F.b 1 [.int .i64 (ρ.i .i64 2), .int .i64 (ρ.i .i64 3)]))) = false from ?_) (all_nil)
  all_goals try simp only [hF, pb1, pb2, pb3]
  all_goals first | omega | skip
  all_goals
    apply beq_of
    simp only [ls_iff, hop_iff, decide_eq_true_eq, Bool.and_eq_true, Bool.not_eq_true', Bool.false_eq_true, true_iff, iff_true, false_iff, iff_false, decide_eq_false_iff_not] at *
    omega
theorem vcsi_3 : VD (T own.Φ cSi.roms []) (st0 cSi) wsi_3 := by
  intro ρ kn hp
  have hF : ρ.z.F = own.Φ := kn.F
  simp only [h_nil, h_cons, d_le, d_eq, d_not, d_var, d_lit, d_cel, d_leq, d_fn, d_and, d_iff, IE.den, LE.den, AL.den, lenV, true_and, and_true, hF, pb1, pb2, pb3] at hp
  obtain ⟨p1, p2, p3⟩ := hp
  refine all_cons (show ((decide ((1 : Int) ≤ (ρ.i .i64 1))) && ((decide ((ρ.i .i64 1) ≤ (64 : Int))) && (ρ.z.F.b 1 [.int .i64 (ρ.i .i64 2), .int .i64 (ρ.i .i64 3)]))) = false from ?_) (all_nil)
  all_goals try simp only [hF, pb1, pb2, pb3]
  all_goals first | omega | skip
  all_goals
    apply beq_of
    simp only [ls_iff, hop_iff, decide_eq_true_eq, Bool.and_eq_true, Bool.not_eq_true', Bool.false_eq_true, true_iff, iff_true, false_iff, iff_false, decide_eq_false_iff_not] at *
    omega
theorem vcsi_4 : VD (T own.Φ cSi.roms []) (st0 cSi) wsi_4 := by
  intro ρ kn hp
  exact all_nil
theorem vcsi_5 : VD (T own.Φ cSi.roms []) (st0 cSi) wsi_5 := by
  intro ρ kn hp
  exact all_nil
theorem told_si : Sx.Told own.Φ cSi := told_vw (cs := []) (all_nil) 4000 vwsi (by kernel_rfl) (by kernel_rfl) (by kernel_rfl) (post_nil rfl) (by kernel_rfl) (by kernel_rfl) (all_cons vcsi_0 (all_cons vcsi_1 (all_cons vcsi_2 (all_cons vcsi_3 (all_cons vcsi_4 (all_cons vcsi_5 (all_nil)))))))
noncomputable section
def whop_0 : VW := (VW.done [(BE.le (IE.lit 0) (IE.var .i64 1)), (BE.lit true)] (some [(G.b (BE.fn 2 (AL.int .i64 (IE.var .i64 1) AL.nil)) (BE.le (IE.var .i64 1) (IE.lit 1099511627776)))]))
def whop_1 : VW := (VW.done [(BE.not (BE.le (IE.lit 0) (IE.var .i64 1))), (BE.lit true)] (some [(G.b (BE.fn 2 (AL.int .i64 (IE.var .i64 1) AL.nil)) (BE.lit false))]))
def vwhop : List VW := [whop_0, whop_1]
end
theorem vchop_0 : VD (T own.Φ cHop.roms []) (st0 cHop) whop_0 := by
  intro ρ kn hp
  have hF : ρ.z.F = own.Φ := kn.F
  simp only [h_nil, h_cons, d_le, d_eq, d_not, d_var, d_lit, d_cel, d_leq, d_fn, d_and, d_iff, IE.den, LE.den, AL.den, lenV, true_and, and_true, hF, pb1, pb2, pb3] at hp
  have p1 := hp
  refine all_cons (show (ρ.z.F.b 2 [.int .i64 (ρ.i .i64 1)]) = (decide ((ρ.i .i64 1) ≤ (1099511627776 : Int))) from ?_) (all_nil)
  all_goals try simp only [hF, pb1, pb2, pb3]
  all_goals first | omega | skip
  all_goals
    apply beq_of
    simp only [ls_iff, hop_iff, decide_eq_true_eq, Bool.and_eq_true, Bool.not_eq_true', Bool.false_eq_true, true_iff, iff_true, false_iff, iff_false, decide_eq_false_iff_not] at *
    omega
theorem vchop_1 : VD (T own.Φ cHop.roms []) (st0 cHop) whop_1 := by
  intro ρ kn hp
  have hF : ρ.z.F = own.Φ := kn.F
  simp only [h_nil, h_cons, d_le, d_eq, d_not, d_var, d_lit, d_cel, d_leq, d_fn, d_and, d_iff, IE.den, LE.den, AL.den, lenV, true_and, and_true, hF, pb1, pb2, pb3] at hp
  have p1 := hp
  refine all_cons (show (ρ.z.F.b 2 [.int .i64 (ρ.i .i64 1)]) = false from ?_) (all_nil)
  all_goals try simp only [hF, pb1, pb2, pb3]
  all_goals first | omega | skip
  all_goals
    apply beq_of
    simp only [ls_iff, hop_iff, decide_eq_true_eq, Bool.and_eq_true, Bool.not_eq_true', Bool.false_eq_true, true_iff, iff_true, false_iff, iff_false, decide_eq_false_iff_not] at *
    omega
theorem told_hop : Sx.Told own.Φ cHop := told_vw (cs := []) (all_nil) 4000 vwhop (by kernel_rfl) (by kernel_rfl) (by kernel_rfl) (post_nil rfl) (by kernel_rfl) (by kernel_rfl) (all_cons vchop_0 (all_cons vchop_1 (all_nil)))
noncomputable section
def wrhop_0 : VW := (VW.done [(BE.le (IE.lit 0) (IE.var .i64 1)), (BE.lit true)] (some [(G.b (BE.fn 2 (AL.int .i64 (IE.var .i64 1) AL.nil)) (BE.le (IE.var .i64 1) (IE.lit 1099511627776)))]))
def wrhop_1 : VW := (VW.done [(BE.not (BE.le (IE.lit 0) (IE.var .i64 1))), (BE.lit true)] (some [(G.b (BE.fn 2 (AL.int .i64 (IE.var .i64 1) AL.nil)) (BE.lit false))]))
def vwrhop : List VW := [wrhop_0, wrhop_1]
end
theorem vcrhop_0 : VD (T own.Φ cRHop.roms []) (st0 cRHop) wrhop_0 := by
  intro ρ kn hp
  have hF : ρ.z.F = own.Φ := kn.F
  simp only [h_nil, h_cons, d_le, d_eq, d_not, d_var, d_lit, d_cel, d_leq, d_fn, d_and, d_iff, IE.den, LE.den, AL.den, lenV, true_and, and_true, hF, pb1, pb2, pb3] at hp
  have p1 := hp
  refine all_cons (show (ρ.z.F.b 2 [.int .i64 (ρ.i .i64 1)]) = (decide ((ρ.i .i64 1) ≤ (1099511627776 : Int))) from ?_) (all_nil)
  all_goals try simp only [hF, pb1, pb2, pb3]
  all_goals first | omega | skip
  all_goals
    apply beq_of
    simp only [ls_iff, hop_iff, decide_eq_true_eq, Bool.and_eq_true, Bool.not_eq_true', Bool.false_eq_true, true_iff, iff_true, false_iff, iff_false, decide_eq_false_iff_not] at *
    omega
theorem vcrhop_1 : VD (T own.Φ cRHop.roms []) (st0 cRHop) wrhop_1 := by
  intro ρ kn hp
  have hF : ρ.z.F = own.Φ := kn.F
  simp only [h_nil, h_cons, d_le, d_eq, d_not, d_var, d_lit, d_cel, d_leq, d_fn, d_and, d_iff, IE.den, LE.den, AL.den, lenV, true_and, and_true, hF, pb1, pb2, pb3] at hp
  have p1 := hp
  refine all_cons (show (ρ.z.F.b 2 [.int .i64 (ρ.i .i64 1)]) = false from ?_) (all_nil)
  all_goals try simp only [hF, pb1, pb2, pb3]
  all_goals first | omega | skip
  all_goals
    apply beq_of
    simp only [ls_iff, hop_iff, decide_eq_true_eq, Bool.and_eq_true, Bool.not_eq_true', Bool.false_eq_true, true_iff, iff_true, false_iff, iff_false, decide_eq_false_iff_not] at *
    omega
theorem told_rhop : Sx.Told own.Φ cRHop := told_vw (cs := []) (all_nil) 4000 vwrhop (by kernel_rfl) (by kernel_rfl) (by kernel_rfl) (post_nil rfl) (by kernel_rfl) (by kernel_rfl) (all_cons vcrhop_0 (all_cons vcrhop_1 (all_nil)))
noncomputable section
def wright_0 : VW := (VW.done [(BE.le (IE.var .i64 1) (IE.var .i64 4)), (BE.le (IE.lit 0) (IE.var .i64 4)), (BE.fn 1 (AL.int .i64 (IE.var .i64 2) (AL.int .i64 (IE.var .i64 3) AL.nil))), (BE.le (IE.var .i64 1) (IE.lit 64)), (BE.le (IE.lit 1) (IE.var .i64 1)), (BE.lit true)] (some []))
def wright_1 : VW := (VW.done [(BE.fn 2 (AL.int .i64 (IE.var .i64 5) AL.nil)), (BE.not (BE.le (IE.var .i64 1) (IE.var .i64 4))), (BE.le (IE.lit 0) (IE.var .i64 4)), (BE.fn 1 (AL.int .i64 (IE.var .i64 2) (AL.int .i64 (IE.var .i64 3) AL.nil))), (BE.le (IE.var .i64 1) (IE.lit 64)), (BE.le (IE.lit 1) (IE.var .i64 1)), (BE.lit true)] (some []))
def wright_2 : VW := (VW.done [(BE.not (BE.fn 2 (AL.int .i64 (IE.var .i64 5) AL.nil))), (BE.not (BE.le (IE.var .i64 1) (IE.var .i64 4))), (BE.le (IE.lit 0) (IE.var .i64 4)), (BE.fn 1 (AL.int .i64 (IE.var .i64 2) (AL.int .i64 (IE.var .i64 3) AL.nil))), (BE.le (IE.var .i64 1) (IE.lit 64)), (BE.le (IE.lit 1) (IE.var .i64 1)), (BE.lit true)] (some []))
def wright_3 : VW := (VW.done [(BE.not (BE.le (IE.lit 0) (IE.var .i64 4))), (BE.fn 1 (AL.int .i64 (IE.var .i64 2) (AL.int .i64 (IE.var .i64 3) AL.nil))), (BE.le (IE.var .i64 1) (IE.lit 64)), (BE.le (IE.lit 1) (IE.var .i64 1)), (BE.lit true)] (some []))
def wright_4 : VW := (VW.done [(BE.le (IE.lit 0) (IE.var .i64 4)), (BE.not (BE.fn 1 (AL.int .i64 (IE.var .i64 2) (AL.int .i64 (IE.var .i64 3) AL.nil)))), (BE.le (IE.var .i64 1) (IE.lit 64)), (BE.le (IE.lit 1) (IE.var .i64 1)), (BE.lit true)] (some []))
def wright_5 : VW := (VW.done [(BE.not (BE.le (IE.lit 0) (IE.var .i64 4))), (BE.not (BE.fn 1 (AL.int .i64 (IE.var .i64 2) (AL.int .i64 (IE.var .i64 3) AL.nil)))), (BE.le (IE.var .i64 1) (IE.lit 64)), (BE.le (IE.lit 1) (IE.var .i64 1)), (BE.lit true)] (some []))
def wright_6 : VW := (VW.done [(BE.le (IE.lit 0) (IE.var .i64 4)), (BE.not (BE.le (IE.var .i64 1) (IE.lit 64))), (BE.le (IE.lit 1) (IE.var .i64 1)), (BE.lit true)] (some []))
def wright_7 : VW := (VW.done [(BE.not (BE.le (IE.lit 0) (IE.var .i64 4))), (BE.not (BE.le (IE.var .i64 1) (IE.lit 64))), (BE.le (IE.lit 1) (IE.var .i64 1)), (BE.lit true)] (some []))
def wright_8 : VW := (VW.done [(BE.le (IE.lit 0) (IE.var .i64 4)), (BE.not (BE.le (IE.lit 1) (IE.var .i64 1))), (BE.lit true)] (some []))
def wright_9 : VW := (VW.done [(BE.not (BE.le (IE.lit 0) (IE.var .i64 4))), (BE.not (BE.le (IE.lit 1) (IE.var .i64 1))), (BE.lit true)] (some []))
def vwright : List VW := [wright_0, wright_1, wright_2, wright_3, wright_4, wright_5, wright_6, wright_7, wright_8, wright_9]
end
theorem vcright_0 : VD (T own.Φ cRight.roms [cFrame, cHop]) (st0 cRight) wright_0 := by
  intro ρ kn hp
  exact all_nil
theorem vcright_1 : VD (T own.Φ cRight.roms [cFrame, cHop]) (st0 cRight) wright_1 := by
  intro ρ kn hp
  exact all_nil
theorem vcright_2 : VD (T own.Φ cRight.roms [cFrame, cHop]) (st0 cRight) wright_2 := by
  intro ρ kn hp
  exact all_nil
theorem vcright_3 : VD (T own.Φ cRight.roms [cFrame, cHop]) (st0 cRight) wright_3 := by
  intro ρ kn hp
  exact all_nil
theorem vcright_4 : VD (T own.Φ cRight.roms [cFrame, cHop]) (st0 cRight) wright_4 := by
  intro ρ kn hp
  exact all_nil
theorem vcright_5 : VD (T own.Φ cRight.roms [cFrame, cHop]) (st0 cRight) wright_5 := by
  intro ρ kn hp
  exact all_nil
theorem vcright_6 : VD (T own.Φ cRight.roms [cFrame, cHop]) (st0 cRight) wright_6 := by
  intro ρ kn hp
  exact all_nil
theorem vcright_7 : VD (T own.Φ cRight.roms [cFrame, cHop]) (st0 cRight) wright_7 := by
  intro ρ kn hp
  exact all_nil
theorem vcright_8 : VD (T own.Φ cRight.roms [cFrame, cHop]) (st0 cRight) wright_8 := by
  intro ρ kn hp
  exact all_nil
theorem vcright_9 : VD (T own.Φ cRight.roms [cFrame, cHop]) (st0 cRight) wright_9 := by
  intro ρ kn hp
  exact all_nil
theorem told_right : Sx.Told own.Φ cRight := told_vw (cs := [cFrame, cHop]) (all_cons told_frame (all_cons told_hop (all_nil))) 4000 vwright (by kernel_rfl) (by kernel_rfl) (by kernel_rfl) (post_nil rfl) (by kernel_rfl) (by kernel_rfl) (all_cons vcright_0 (all_cons vcright_1 (all_cons vcright_2 (all_cons vcright_3 (all_cons vcright_4 (all_cons vcright_5 (all_cons vcright_6 (all_cons vcright_7 (all_cons vcright_8 (all_cons vcright_9 (all_nil)))))))))))
noncomputable section
def wrright_0 : VW := (VW.done [(BE.le (IE.var .i64 1) (IE.var .i64 4)), (BE.le (IE.lit 0) (IE.var .i64 4)), (BE.fn 1 (AL.int .i64 (IE.var .i64 2) (AL.int .i64 (IE.var .i64 3) AL.nil))), (BE.le (IE.var .i64 1) (IE.lit 64)), (BE.le (IE.lit 1) (IE.var .i64 1)), (BE.lit true)] (some []))
def wrright_1 : VW := (VW.done [(BE.not (BE.le (IE.var .i64 1) (IE.var .i64 4))), (BE.le (IE.lit 0) (IE.var .i64 4)), (BE.fn 1 (AL.int .i64 (IE.var .i64 2) (AL.int .i64 (IE.var .i64 3) AL.nil))), (BE.le (IE.var .i64 1) (IE.lit 64)), (BE.le (IE.lit 1) (IE.var .i64 1)), (BE.lit true)] (some []))
def wrright_2 : VW := (VW.done [(BE.not (BE.le (IE.lit 0) (IE.var .i64 4))), (BE.fn 1 (AL.int .i64 (IE.var .i64 2) (AL.int .i64 (IE.var .i64 3) AL.nil))), (BE.le (IE.var .i64 1) (IE.lit 64)), (BE.le (IE.lit 1) (IE.var .i64 1)), (BE.lit true)] (some []))
def wrright_3 : VW := (VW.done [(BE.not (BE.fn 1 (AL.int .i64 (IE.var .i64 2) (AL.int .i64 (IE.var .i64 3) AL.nil)))), (BE.le (IE.var .i64 1) (IE.lit 64)), (BE.le (IE.lit 1) (IE.var .i64 1)), (BE.lit true)] (some []))
def wrright_4 : VW := (VW.done [(BE.not (BE.le (IE.var .i64 1) (IE.lit 64))), (BE.le (IE.lit 1) (IE.var .i64 1)), (BE.lit true)] (some []))
def wrright_5 : VW := (VW.done [(BE.not (BE.le (IE.lit 1) (IE.var .i64 1))), (BE.lit true)] (some []))
def vwrright : List VW := [wrright_0, wrright_1, wrright_2, wrright_3, wrright_4, wrright_5]
end
theorem vcrright_0 : VD (T own.Φ cRRight.roms [cSi, cRHop]) (st0 cRRight) wrright_0 := by
  intro ρ kn hp
  exact all_nil
theorem vcrright_1 : VD (T own.Φ cRRight.roms [cSi, cRHop]) (st0 cRRight) wrright_1 := by
  intro ρ kn hp
  exact all_nil
theorem vcrright_2 : VD (T own.Φ cRRight.roms [cSi, cRHop]) (st0 cRRight) wrright_2 := by
  intro ρ kn hp
  exact all_nil
theorem vcrright_3 : VD (T own.Φ cRRight.roms [cSi, cRHop]) (st0 cRRight) wrright_3 := by
  intro ρ kn hp
  exact all_nil
theorem vcrright_4 : VD (T own.Φ cRRight.roms [cSi, cRHop]) (st0 cRRight) wrright_4 := by
  intro ρ kn hp
  exact all_nil
theorem vcrright_5 : VD (T own.Φ cRRight.roms [cSi, cRHop]) (st0 cRRight) wrright_5 := by
  intro ρ kn hp
  exact all_nil
theorem told_rright : Sx.Told own.Φ cRRight := told_vw (cs := [cSi, cRHop]) (all_cons told_si (all_cons told_rhop (all_nil))) 4000 vwrright (by kernel_rfl) (by kernel_rfl) (by kernel_rfl) (post_nil rfl) (by kernel_rfl) (by kernel_rfl) (all_cons vcrright_0 (all_cons vcrright_1 (all_cons vcrright_2 (all_cons vcrright_3 (all_cons vcrright_4 (all_cons vcrright_5 (all_nil)))))))
theorem told_works : Sx.Told own.Φ cWorks := told_auto (cs := []) (all_nil) 60000 (by kernel_rfl) (by kernel_rfl) (by kernel_rfl) (post_nil rfl) (by kernel_rfl) (by kernel_rfl)
noncomputable section
def tguess1 : Cfg := { top := ⟨103, over (opqS 10000 21) [(1, (SV.bool (BE.var 1000))), (2, (SV.func (Go.Fn.func 104) [] [(SV.ptr 0 0)])), (9, (SV.rom 0 (IE.lit 0) (IE.len (LE.rom 0)) none)), (10, (SV.int .i64 (IE.len (LE.rom 0)))), (11, (SV.int .i64 (IE.var .i64 1001)))], ogt (loopTodo (bodyOf (T own.Φ [] []) 103) 0), [], false, none⟩, rest := [⟨85, over (opqS 30000 15) [(10, (SV.bool (BE.eq (IE.len (LE.rom 0)) (IE.var .i64 1))))], ogt (callTodo (bodyOf (T own.Φ [] []) 85) 1 [8, 9, 10]), [], false, none⟩], heap := [(0, .cells [(SV.int .i64 (IE.var .i64 1)), (SV.int .i64 (IE.var .i64 2)), (SV.int .i64 (IE.var .i64 3))] 23)], next := 1, pc := .lit true :: ([] ++ [(BE.eq (IE.len (LE.rom 0)) (IE.var .i64 1)), (BE.le (IE.lit 0) (IE.var .i64 1001)), (BE.le (IE.var .i64 1001) (IE.len (LE.rom 0)))]) }
def tmguess : List (Nat × Cfg) := [(0, startF 85 cGuess.pat [.lit true]), (1, tguess1)]
def selguess : Sel := [(103, 1, 1, 1)]
def wguess0_0 : VW := (VW.cut 1 [(BE.eq (IE.len (LE.rom 0)) (IE.var .i64 1)), (BE.lit true)] (Sx.Sub.mk [(.i64, (1001, (IE.lit 0)))] [(1000, (BE.lit true))] [] [] [] []))
def wguess0_1 : VW := (VW.done [(BE.not (BE.eq (IE.len (LE.rom 0)) (IE.var .i64 1))), (BE.lit true)] (some []))
def vwguess0 : List VW := [wguess0_0, wguess0_1]
def wguess1_0 : VW := (VW.done [(BE.le (IE.len (LE.rom 0)) (IE.var .i64 1001)), (BE.lit true), (BE.eq (IE.len (LE.rom 0)) (IE.var .i64 1)), (BE.le (IE.lit 0) (IE.var .i64 1001)), (BE.le (IE.var .i64 1001) (IE.len (LE.rom 0)))] (some [(G.b (BE.and (BE.eq (IE.len (LE.rom 0)) (IE.var .i64 1)) (BE.fn 3 (AL.lst (LE.rom 0) (AL.int .i64 (IE.var .i64 1) (AL.int .i64 (IE.var .i64 2) (AL.int .i64 (IE.var .i64 3) AL.nil)))))) (BE.var 1000))]))
def wguess1_1 : VW := (VW.cut 1 [(BE.var 1000), (BE.not (BE.le (IE.len (LE.rom 0)) (IE.var .i64 1001))), (BE.lit true), (BE.eq (IE.len (LE.rom 0)) (IE.var .i64 1)), (BE.le (IE.lit 0) (IE.var .i64 1001)), (BE.le (IE.var .i64 1001) (IE.len (LE.rom 0)))] (Sx.Sub.mk [(.i64, (1001, (IE.add (IE.var .i64 1001) (IE.lit 1))))] [(1000, (BE.and (BE.and (BE.le (IE.lit 1) (IE.var .i64 1)) (BE.and (BE.le (IE.var .i64 1) (IE.lit 64)) (BE.fn 1 (AL.int .i64 (IE.var .i64 2) (AL.int .i64 (IE.var .i64 3) AL.nil))))) (BE.and (BE.and (BE.le (IE.lit 0) (IE.cel .i64 (LE.rom 0) (IE.var .i64 1001) 0)) (BE.not (BE.le (IE.var .i64 1) (IE.cel .i64 (LE.rom 0) (IE.var .i64 1001) 0)))) (BE.fn 2 (AL.int .i64 (IE.cel .i64 (LE.rom 0) (IE.var .i64 1001) 1) AL.nil)))))] [] [] [] []))
def wguess1_2 : VW := (VW.cut 1 [(BE.not (BE.var 1000)), (BE.not (BE.le (IE.len (LE.rom 0)) (IE.var .i64 1001))), (BE.lit true), (BE.eq (IE.len (LE.rom 0)) (IE.var .i64 1)), (BE.le (IE.lit 0) (IE.var .i64 1001)), (BE.le (IE.var .i64 1001) (IE.len (LE.rom 0)))] (Sx.Sub.mk [(.i64, (1001, (IE.add (IE.var .i64 1001) (IE.lit 1))))] [(1000, (BE.lit false))] [] [] [] []))
def vwguess1 : List VW := [wguess1_0, wguess1_1, wguess1_2]
def vwguess : Nat → List VW
  | 0 => vwguess0
  | 1 => vwguess1
  | _ => []
end
def invguess : Nat → Lt → Prop
  | 1, l => (l.b 1000) = guessN (l.i .i64 1) (l.i .i64 2) (l.i .i64 3) (l.z.rl 0) (l.i .i64 1001).toNat
  | _, _ => True
def msguess : Nat → Lt → Nat
  | 0, l => (l.z.rl 0).length + 1
  | 1, l => (l.z.rl 0).length - (l.i .i64 1001).toNat
  | _, _ => 0
theorem vcguess0_0 : VC (T own.Φ cGuess.roms [cRight]) invguess msguess 0 (startF 85 cGuess.pat [.lit true]) wguess0_0 := by
  intro ρ kn hi hp
  have hF : ρ.z.F = own.Φ := kn.F
  simp only [h_nil, h_cons, d_le, d_eq, d_not, d_var, d_lit, d_cel, d_leq, d_fn, d_and, d_iff, IE.den, LE.den, AL.den, lenV, true_and, and_true, hF, pb1, pb2, pb3] at hp
  have p1 := hp
  refine (show (true = guessN (ρ.i .i64 1) (ρ.i .i64 2) (ρ.i .i64 3) (ρ.z.rl 0) (0 : Int).toNat) ∧ (((ρ.z.rl 0).length - (0 : Int).toNat : Nat) < (ρ.z.rl 0).length + 1) from ?_)
  exact ⟨rfl, by omega⟩
theorem vcguess0_1 : VC (T own.Φ cGuess.roms [cRight]) invguess msguess 0 (startF 85 cGuess.pat [.lit true]) wguess0_1 := by
  intro ρ kn hi hp
  exact all_nil
theorem vcguess1_0 : VC (T own.Φ cGuess.roms [cRight]) invguess msguess 1 tguess1 wguess1_0 := by
  intro ρ kn hi hp
  have hi : (ρ.b 1000) = guessN (ρ.i .i64 1) (ρ.i .i64 2) (ρ.i .i64 3) (ρ.z.rl 0) (ρ.i .i64 1001).toNat := hi
  have hF : ρ.z.F = own.Φ := kn.F
  simp only [h_nil, h_cons, d_le, d_eq, d_not, d_var, d_lit, d_cel, d_leq, d_fn, d_and, d_iff, IE.den, LE.den, AL.den, lenV, true_and, and_true, hF, pb1, pb2, pb3] at hp
  obtain ⟨p1, p2, p3, p4⟩ := hp
  refine all_cons (show ((decide ((((ρ.z.rl 0).length : Nat) : Int) = (ρ.i .i64 1))) && (ρ.z.F.b 3 [.lst (ρ.z.rl 0), .int .i64 (ρ.i .i64 1), .int .i64 (ρ.i .i64 2), .int .i64 (ρ.i .i64 3)])) = (ρ.b 1000) from ?_) (all_nil)
  all_goals try simp only [hF, pb1, pb2, pb3]
  rw [hi, show (ρ.i .i64 1001).toNat = (ρ.z.rl 0).length by omega, decide_eq_true (by assumption), Bool.true_and]
theorem vcguess1_1 : VC (T own.Φ cGuess.roms [cRight]) invguess msguess 1 tguess1 wguess1_1 := by
  intro ρ kn hi hp
  have hi : (ρ.b 1000) = guessN (ρ.i .i64 1) (ρ.i .i64 2) (ρ.i .i64 3) (ρ.z.rl 0) (ρ.i .i64 1001).toNat := hi
  have hF : ρ.z.F = own.Φ := kn.F
  simp only [h_nil, h_cons, d_le, d_eq, d_not, d_var, d_lit, d_cel, d_leq, d_fn, d_and, d_iff, IE.den, LE.den, AL.den, lenV, true_and, and_true, hF, pb1, pb2, pb3] at hp
  obtain ⟨p1, p2, p3, p4, p5⟩ := hp
  refine (show ((((decide ((1 : Int) ≤ (ρ.i .i64 1))) && ((decide ((ρ.i .i64 1) ≤ (64 : Int))) && (ρ.z.F.b 1 [.int .i64 (ρ.i .i64 2), .int .i64 (ρ.i .i64 3)]))) && (((decide ((0 : Int) ≤ (clampK .i64 (intV (celV (ρ.z.rl 0) (ρ.i .i64 1001) 0))))) && (!(decide ((ρ.i .i64 1) ≤ (clampK .i64 (intV (celV (ρ.z.rl 0) (ρ.i .i64 1001) 0))))))) && (ρ.z.F.b 2 [.int .i64 (clampK .i64 (intV (celV (ρ.z.rl 0) (ρ.i .i64 1001) 1)))]))) = guessN (ρ.i .i64 1) (ρ.i .i64 2) (ρ.i .i64 3) (ρ.z.rl 0) ((ρ.i .i64 1001) + (1 : Int)).toNat) ∧ (((ρ.z.rl 0).length - ((ρ.i .i64 1001) + (1 : Int)).toNat : Nat) < (ρ.z.rl 0).length - (ρ.i .i64 1001).toNat) from ?_)
  simp only [hF, pb1, pb2, pb3]
  refine ⟨?_, by omega⟩
  rw [guess_go (by omega), ← hi, show ρ.b 1000 = true by assumption, Bool.true_and]
  apply beq_of
  simp only [Bool.and_eq_true, decide_eq_true_eq, Bool.not_eq_true', decide_eq_false_iff_not, Int.not_le]
  constructor
  · rintro ⟨⟨a, b, c⟩, ⟨d, e⟩, f⟩
    exact ⟨⟨⟨a, b⟩, c⟩, ⟨d, e⟩, f⟩
  · rintro ⟨⟨⟨a, b⟩, c⟩, ⟨d, e⟩, f⟩
    exact ⟨⟨a, b, c⟩, ⟨d, e⟩, f⟩
theorem vcguess1_2 : VC (T own.Φ cGuess.roms [cRight]) invguess msguess 1 tguess1 wguess1_2 := by
  intro ρ kn hi hp
  have hi : (ρ.b 1000) = guessN (ρ.i .i64 1) (ρ.i .i64 2) (ρ.i .i64 3) (ρ.z.rl 0) (ρ.i .i64 1001).toNat := hi
  have hF : ρ.z.F = own.Φ := kn.F
  simp only [h_nil, h_cons, d_le, d_eq, d_not, d_var, d_lit, d_cel, d_leq, d_fn, d_and, d_iff, IE.den, LE.den, AL.den, lenV, true_and, and_true, hF, pb1, pb2, pb3] at hp
  obtain ⟨p1, p2, p3, p4, p5⟩ := hp
  refine (show (false = guessN (ρ.i .i64 1) (ρ.i .i64 2) (ρ.i .i64 3) (ρ.z.rl 0) ((ρ.i .i64 1001) + (1 : Int)).toNat) ∧ (((ρ.z.rl 0).length - ((ρ.i .i64 1001) + (1 : Int)).toNat : Nat) < (ρ.z.rl 0).length - (ρ.i .i64 1001).toNat) from ?_)
  exact ⟨by rw [guess_go (by omega), ← hi, Bool.eq_false_iff.2 (by assumption : ¬ ρ.b 1000 = true), Bool.false_and], by omega⟩
theorem vcsguess0 : ∀ v ∈ vwguess 0, VC (T own.Φ cGuess.roms [cRight]) invguess msguess 0 (startF 85 cGuess.pat [.lit true]) v := all_cons vcguess0_0 (all_cons vcguess0_1 (all_nil))
theorem okguess0 : cfgOk (startF 85 cGuess.pat [.lit true]) = true := by kernel_rfl
theorem sgguess0 : segL cGuess.roms cGuess (seg (T own.Φ cGuess.roms [cRight]) selguess 900 tmguess (startF 85 cGuess.pat [.lit true])) = (true, codesR tmguess (views (seg (T own.Φ cGuess.roms [cRight]) selguess 900 tmguess (startF 85 cGuess.pat [.lit true]))), vwguess 0) := by kernel_rfl
theorem vcsguess1 : ∀ v ∈ vwguess 1, VC (T own.Φ cGuess.roms [cRight]) invguess msguess 1 tguess1 v := all_cons vcguess1_0 (all_cons vcguess1_1 (all_cons vcguess1_2 (all_nil)))
theorem okguess1 : cfgOk tguess1 = true := by kernel_rfl
theorem sgguess1 : segL cGuess.roms cGuess (seg (T own.Φ cGuess.roms [cRight]) selguess 900 tmguess tguess1) = (true, codesR tmguess (views (seg (T own.Φ cGuess.roms [cRight]) selguess 900 tmguess tguess1)), vwguess 1) := by kernel_rfl
theorem lnguess0 : ∀ ρ, Known (T own.Φ cGuess.roms [cRight]) (startF 85 cGuess.pat [.lit true]) ρ → invguess 0 ρ.lt → Holds ρ (leanOf (Cfg.pc (startF 85 cGuess.pat [.lit true]))) := by
  intro ρ _ _
  exact (show Holds ρ [] from fun p hp => by cases hp)
theorem lnguess1 : ∀ ρ, Known (T own.Φ cGuess.roms [cRight]) tguess1 ρ → invguess 1 ρ.lt → Holds ρ (leanOf (Cfg.pc tguess1)) := by
  intro ρ _ _
  exact (show Holds ρ [] from fun p hp => by cases hp)
theorem told_guess : Sx.Told own.Φ cGuess := by
  refine told_of (cs := [cRight]) (all_cons told_right (all_nil)) (sel := selguess) 900 tmguess invguess msguess vwguess 0 (pc0 := [.lit true]) (by kernel_rfl) (by kernel_rfl) (by kernel_rfl) (post_nil rfl) ?_ ?_ ?_ rfl (fun ρ _ _ => by simp [Holds, BE.den]) (fun _ _ _ _ => trivial) ?_
  · intro k C h
    have := lk_mem h
    simp only [tmguess, List.mem_cons, Prod.mk.injEq, List.not_mem_nil, or_false] at this
    rcases this with ⟨rfl, rfl⟩ | ⟨rfl, rfl⟩
    · exact okguess0
    · exact okguess1
  · intro k C h
    have := lk_mem h
    simp only [tmguess, List.mem_cons, Prod.mk.injEq, List.not_mem_nil, or_false] at this
    rcases this with ⟨rfl, rfl⟩ | ⟨rfl, rfl⟩
    · exact sgguess0
    · exact sgguess1
  · intro k C h
    have := lk_mem h
    simp only [tmguess, List.mem_cons, Prod.mk.injEq, List.not_mem_nil, or_false] at this
    rcases this with ⟨rfl, rfl⟩ | ⟨rfl, rfl⟩
    · exact vcsguess0
    · exact vcsguess1
  · intro k C h
    have := lk_mem h
    simp only [tmguess, List.mem_cons, Prod.mk.injEq, List.not_mem_nil, or_false] at this
    rcases this with ⟨rfl, rfl⟩ | ⟨rfl, rfl⟩
    · exact lnguess0
    · exact lnguess1
noncomputable section
def wseeks_0 : VW := (VW.done [(BE.le (IE.var .i64 1) (IE.var .i64 6)), (BE.fn 3 (AL.lst (LE.rom 0) (AL.int .i64 (IE.var .i64 1) (AL.int .i64 (IE.var .i64 2) (AL.int .i64 (IE.var .i64 3) AL.nil))))), (BE.eq (IE.len (LE.rom 0)) (IE.var .i64 1)), (BE.le (IE.lit 0) (IE.var .i64 6)), (BE.fn 1 (AL.int .i64 (IE.var .i64 2) (AL.int .i64 (IE.var .i64 3) AL.nil))), (BE.le (IE.var .i64 1) (IE.lit 64)), (BE.le (IE.lit 1) (IE.var .i64 1)), (BE.lit true)] (some []))
def wseeks_1 : VW := (VW.done [(BE.fn 2 (AL.int .i64 (IE.var .i64 7) AL.nil)), (BE.not (BE.le (IE.var .i64 1) (IE.var .i64 6))), (BE.fn 3 (AL.lst (LE.rom 0) (AL.int .i64 (IE.var .i64 1) (AL.int .i64 (IE.var .i64 2) (AL.int .i64 (IE.var .i64 3) AL.nil))))), (BE.eq (IE.len (LE.rom 0)) (IE.var .i64 1)), (BE.le (IE.lit 0) (IE.var .i64 6)), (BE.fn 1 (AL.int .i64 (IE.var .i64 2) (AL.int .i64 (IE.var .i64 3) AL.nil))), (BE.le (IE.var .i64 1) (IE.lit 64)), (BE.le (IE.lit 1) (IE.var .i64 1)), (BE.lit true)] (some []))
def wseeks_2 : VW := (VW.done [(BE.not (BE.fn 2 (AL.int .i64 (IE.var .i64 7) AL.nil))), (BE.not (BE.le (IE.var .i64 1) (IE.var .i64 6))), (BE.fn 3 (AL.lst (LE.rom 0) (AL.int .i64 (IE.var .i64 1) (AL.int .i64 (IE.var .i64 2) (AL.int .i64 (IE.var .i64 3) AL.nil))))), (BE.eq (IE.len (LE.rom 0)) (IE.var .i64 1)), (BE.le (IE.lit 0) (IE.var .i64 6)), (BE.fn 1 (AL.int .i64 (IE.var .i64 2) (AL.int .i64 (IE.var .i64 3) AL.nil))), (BE.le (IE.var .i64 1) (IE.lit 64)), (BE.le (IE.lit 1) (IE.var .i64 1)), (BE.lit true)] (some []))
def wseeks_3 : VW := (VW.done [(BE.not (BE.fn 3 (AL.lst (LE.rom 0) (AL.int .i64 (IE.var .i64 1) (AL.int .i64 (IE.var .i64 2) (AL.int .i64 (IE.var .i64 3) AL.nil)))))), (BE.eq (IE.len (LE.rom 0)) (IE.var .i64 1)), (BE.le (IE.lit 0) (IE.var .i64 6)), (BE.fn 1 (AL.int .i64 (IE.var .i64 2) (AL.int .i64 (IE.var .i64 3) AL.nil))), (BE.le (IE.var .i64 1) (IE.lit 64)), (BE.le (IE.lit 1) (IE.var .i64 1)), (BE.lit true)] (some []))
def wseeks_4 : VW := (VW.done [(BE.not (BE.eq (IE.len (LE.rom 0)) (IE.var .i64 1))), (BE.le (IE.lit 0) (IE.var .i64 6)), (BE.fn 1 (AL.int .i64 (IE.var .i64 2) (AL.int .i64 (IE.var .i64 3) AL.nil))), (BE.le (IE.var .i64 1) (IE.lit 64)), (BE.le (IE.lit 1) (IE.var .i64 1)), (BE.lit true)] (some []))
def wseeks_5 : VW := (VW.done [(BE.fn 3 (AL.lst (LE.rom 0) (AL.int .i64 (IE.var .i64 1) (AL.int .i64 (IE.var .i64 2) (AL.int .i64 (IE.var .i64 3) AL.nil))))), (BE.eq (IE.len (LE.rom 0)) (IE.var .i64 1)), (BE.not (BE.le (IE.lit 0) (IE.var .i64 6))), (BE.fn 1 (AL.int .i64 (IE.var .i64 2) (AL.int .i64 (IE.var .i64 3) AL.nil))), (BE.le (IE.var .i64 1) (IE.lit 64)), (BE.le (IE.lit 1) (IE.var .i64 1)), (BE.lit true)] (some []))
def wseeks_6 : VW := (VW.done [(BE.not (BE.fn 3 (AL.lst (LE.rom 0) (AL.int .i64 (IE.var .i64 1) (AL.int .i64 (IE.var .i64 2) (AL.int .i64 (IE.var .i64 3) AL.nil)))))), (BE.eq (IE.len (LE.rom 0)) (IE.var .i64 1)), (BE.not (BE.le (IE.lit 0) (IE.var .i64 6))), (BE.fn 1 (AL.int .i64 (IE.var .i64 2) (AL.int .i64 (IE.var .i64 3) AL.nil))), (BE.le (IE.var .i64 1) (IE.lit 64)), (BE.le (IE.lit 1) (IE.var .i64 1)), (BE.lit true)] (some []))
def wseeks_7 : VW := (VW.done [(BE.not (BE.eq (IE.len (LE.rom 0)) (IE.var .i64 1))), (BE.not (BE.le (IE.lit 0) (IE.var .i64 6))), (BE.fn 1 (AL.int .i64 (IE.var .i64 2) (AL.int .i64 (IE.var .i64 3) AL.nil))), (BE.le (IE.var .i64 1) (IE.lit 64)), (BE.le (IE.lit 1) (IE.var .i64 1)), (BE.lit true)] (some []))
def wseeks_8 : VW := (VW.done [(BE.le (IE.lit 0) (IE.var .i64 6)), (BE.not (BE.fn 1 (AL.int .i64 (IE.var .i64 2) (AL.int .i64 (IE.var .i64 3) AL.nil)))), (BE.le (IE.var .i64 1) (IE.lit 64)), (BE.le (IE.lit 1) (IE.var .i64 1)), (BE.lit true)] (some []))
def wseeks_9 : VW := (VW.done [(BE.not (BE.le (IE.lit 0) (IE.var .i64 6))), (BE.not (BE.fn 1 (AL.int .i64 (IE.var .i64 2) (AL.int .i64 (IE.var .i64 3) AL.nil)))), (BE.le (IE.var .i64 1) (IE.lit 64)), (BE.le (IE.lit 1) (IE.var .i64 1)), (BE.lit true)] (some []))
def wseeks_10 : VW := (VW.done [(BE.le (IE.lit 0) (IE.var .i64 6)), (BE.not (BE.le (IE.var .i64 1) (IE.lit 64))), (BE.le (IE.lit 1) (IE.var .i64 1)), (BE.lit true)] (some []))
def wseeks_11 : VW := (VW.done [(BE.not (BE.le (IE.lit 0) (IE.var .i64 6))), (BE.not (BE.le (IE.var .i64 1) (IE.lit 64))), (BE.le (IE.lit 1) (IE.var .i64 1)), (BE.lit true)] (some []))
def wseeks_12 : VW := (VW.done [(BE.le (IE.lit 0) (IE.var .i64 6)), (BE.not (BE.le (IE.lit 1) (IE.var .i64 1))), (BE.lit true)] (some []))
def wseeks_13 : VW := (VW.done [(BE.not (BE.le (IE.lit 0) (IE.var .i64 6))), (BE.not (BE.le (IE.lit 1) (IE.var .i64 1))), (BE.lit true)] (some []))
def vwseeks : List VW := [wseeks_0, wseeks_1, wseeks_2, wseeks_3, wseeks_4, wseeks_5, wseeks_6, wseeks_7, wseeks_8, wseeks_9, wseeks_10, wseeks_11, wseeks_12, wseeks_13]
end
theorem vcseeks_0 : VD (T own.Φ cSeeks.roms [cGuess, cFrame, cHop]) (st0 cSeeks) wseeks_0 := by
  intro ρ kn hp
  exact all_nil
theorem vcseeks_1 : VD (T own.Φ cSeeks.roms [cGuess, cFrame, cHop]) (st0 cSeeks) wseeks_1 := by
  intro ρ kn hp
  exact all_nil
theorem vcseeks_2 : VD (T own.Φ cSeeks.roms [cGuess, cFrame, cHop]) (st0 cSeeks) wseeks_2 := by
  intro ρ kn hp
  exact all_nil
theorem vcseeks_3 : VD (T own.Φ cSeeks.roms [cGuess, cFrame, cHop]) (st0 cSeeks) wseeks_3 := by
  intro ρ kn hp
  exact all_nil
theorem vcseeks_4 : VD (T own.Φ cSeeks.roms [cGuess, cFrame, cHop]) (st0 cSeeks) wseeks_4 := by
  intro ρ kn hp
  exact all_nil
theorem vcseeks_5 : VD (T own.Φ cSeeks.roms [cGuess, cFrame, cHop]) (st0 cSeeks) wseeks_5 := by
  intro ρ kn hp
  exact all_nil
theorem vcseeks_6 : VD (T own.Φ cSeeks.roms [cGuess, cFrame, cHop]) (st0 cSeeks) wseeks_6 := by
  intro ρ kn hp
  exact all_nil
theorem vcseeks_7 : VD (T own.Φ cSeeks.roms [cGuess, cFrame, cHop]) (st0 cSeeks) wseeks_7 := by
  intro ρ kn hp
  exact all_nil
theorem vcseeks_8 : VD (T own.Φ cSeeks.roms [cGuess, cFrame, cHop]) (st0 cSeeks) wseeks_8 := by
  intro ρ kn hp
  exact all_nil
theorem vcseeks_9 : VD (T own.Φ cSeeks.roms [cGuess, cFrame, cHop]) (st0 cSeeks) wseeks_9 := by
  intro ρ kn hp
  exact all_nil
theorem vcseeks_10 : VD (T own.Φ cSeeks.roms [cGuess, cFrame, cHop]) (st0 cSeeks) wseeks_10 := by
  intro ρ kn hp
  exact all_nil
theorem vcseeks_11 : VD (T own.Φ cSeeks.roms [cGuess, cFrame, cHop]) (st0 cSeeks) wseeks_11 := by
  intro ρ kn hp
  exact all_nil
theorem vcseeks_12 : VD (T own.Φ cSeeks.roms [cGuess, cFrame, cHop]) (st0 cSeeks) wseeks_12 := by
  intro ρ kn hp
  exact all_nil
theorem vcseeks_13 : VD (T own.Φ cSeeks.roms [cGuess, cFrame, cHop]) (st0 cSeeks) wseeks_13 := by
  intro ρ kn hp
  exact all_nil
theorem told_seeks : Sx.Told own.Φ cSeeks := told_vw (cs := [cGuess, cFrame, cHop]) (all_cons told_guess (all_cons told_frame (all_cons told_hop (all_nil)))) 4000 vwseeks (by kernel_rfl) (by kernel_rfl) (by kernel_rfl) (post_nil rfl) (by kernel_rfl) (by kernel_rfl) (all_cons vcseeks_0 (all_cons vcseeks_1 (all_cons vcseeks_2 (all_cons vcseeks_3 (all_cons vcseeks_4 (all_cons vcseeks_5 (all_cons vcseeks_6 (all_cons vcseeks_7 (all_cons vcseeks_8 (all_cons vcseeks_9 (all_cons vcseeks_10 (all_cons vcseeks_11 (all_cons vcseeks_12 (all_cons vcseeks_13 (all_nil)))))))))))))))
end Go.Proofs.Ytepodgakaajcmaa.own
