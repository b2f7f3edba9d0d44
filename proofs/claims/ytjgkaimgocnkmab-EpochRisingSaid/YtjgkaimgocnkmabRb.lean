/- Layer epoch: which is later. No condition. -/
import Derived.Test.YtjgkaimgocnkmabRa
set_option linter.unusedVariables false
set_option linter.unusedSimpArgs false
set_option linter.deprecated false
namespace Go.Proofs.Ytjgkaimgocnkmab.rise
open Go Go.Proofs.Ytjgkaimgocnkmab.Sx
theorem told_works : Sx.Told rise.Φ cWorks := told_auto (cs := []) (all_nil) 9000 (by kernel_rfl) (by kernel_rfl) (by kernel_rfl) (post_nil rfl) (by kernel_rfl) (by kernel_rfl)
noncomputable section
def wlater_0 : VW := (VW.done [(BE.le (IE.var .i64 2) (IE.var .i64 4)), (BE.le (IE.var .i64 4) (IE.var .i64 2)), (BE.le (IE.var .i64 1) (IE.var .i64 3)), (BE.le (IE.var .i64 3) (IE.var .i64 1)), (BE.lit true)] (some [(G.b (BE.fn 1 (AL.int .i64 (IE.var .i64 1) (AL.int .i64 (IE.var .i64 2) (AL.int .i64 (IE.var .i64 3) (AL.int .i64 (IE.var .i64 4) AL.nil))))) (BE.lit false))]))
def wlater_1 : VW := (VW.done [(BE.not (BE.le (IE.var .i64 2) (IE.var .i64 4))), (BE.le (IE.var .i64 4) (IE.var .i64 2)), (BE.le (IE.var .i64 1) (IE.var .i64 3)), (BE.le (IE.var .i64 3) (IE.var .i64 1)), (BE.lit true)] (some [(G.b (BE.fn 1 (AL.int .i64 (IE.var .i64 1) (AL.int .i64 (IE.var .i64 2) (AL.int .i64 (IE.var .i64 3) (AL.int .i64 (IE.var .i64 4) AL.nil))))) (BE.lit true))]))
def wlater_2 : VW := (VW.done [(BE.not (BE.le (IE.var .i64 4) (IE.var .i64 2))), (BE.le (IE.var .i64 1) (IE.var .i64 3)), (BE.le (IE.var .i64 3) (IE.var .i64 1)), (BE.lit true)] (some [(G.b (BE.fn 1 (AL.int .i64 (IE.var .i64 1) (AL.int .i64 (IE.var .i64 2) (AL.int .i64 (IE.var .i64 3) (AL.int .i64 (IE.var .i64 4) AL.nil))))) (BE.lit false))]))
def wlater_3 : VW := (VW.done [(BE.not (BE.le (IE.var .i64 1) (IE.var .i64 3))), (BE.le (IE.var .i64 3) (IE.var .i64 1)), (BE.lit true)] (some [(G.b (BE.fn 1 (AL.int .i64 (IE.var .i64 1) (AL.int .i64 (IE.var .i64 2) (AL.int .i64 (IE.var .i64 3) (AL.int .i64 (IE.var .i64 4) AL.nil))))) (BE.lit true))]))
def wlater_4 : VW := (VW.done [(BE.not (BE.le (IE.var .i64 3) (IE.var .i64 1))), (BE.lit true)] (some [(G.b (BE.fn 1 (AL.int .i64 (IE.var .i64 1) (AL.int .i64 (IE.var .i64 2) (AL.int .i64 (IE.var .i64 3) (AL.int .i64 (IE.var .i64 4) AL.nil))))) (BE.lit false))]))
def vwlater : List VW := [wlater_0, wlater_1, wlater_2, wlater_3, wlater_4]
end
theorem vclater_0 : VD (T rise.Φ cLater.roms []) (st0 cLater) wlater_0 := by
  intro ρ kn hp
  have hF : ρ.z.F = rise.Φ := kn.F
  simp only [h_nil, h_cons, d_le, d_eq, d_not, d_var, d_lit, d_cel, d_leq, d_fn, d_and, d_iff, IE.den, LE.den, AL.den, lenV, true_and, and_true, hF, pi1, pi2, pb1] at hp
  obtain ⟨p1, p2, p3, p4⟩ := hp
  refine all_cons (show (ρ.z.F.b 1 [.int .i64 (ρ.i .i64 1), .int .i64 (ρ.i .i64 2), .int .i64 (ρ.i .i64 3), .int .i64 (ρ.i .i64 4)]) = false from ?_) (all_nil)
  all_goals try simp only [hF, pi1, pi2, pb1]
  all_goals
    apply beq_of
    simp only [later_iff, decide_eq_true_eq, Bool.false_eq_true, true_iff, iff_true, false_iff, iff_false, Bool.not_eq_true', decide_eq_false_iff_not]
    omega
theorem vclater_1 : VD (T rise.Φ cLater.roms []) (st0 cLater) wlater_1 := by
  intro ρ kn hp
  have hF : ρ.z.F = rise.Φ := kn.F
  simp only [h_nil, h_cons, d_le, d_eq, d_not, d_var, d_lit, d_cel, d_leq, d_fn, d_and, d_iff, IE.den, LE.den, AL.den, lenV, true_and, and_true, hF, pi1, pi2, pb1] at hp
  obtain ⟨p1, p2, p3, p4⟩ := hp
  refine all_cons (show (ρ.z.F.b 1 [.int .i64 (ρ.i .i64 1), .int .i64 (ρ.i .i64 2), .int .i64 (ρ.i .i64 3), .int .i64 (ρ.i .i64 4)]) = true from ?_) (all_nil)
  all_goals try simp only [hF, pi1, pi2, pb1]
  all_goals
    apply beq_of
    simp only [later_iff, decide_eq_true_eq, Bool.false_eq_true, true_iff, iff_true, false_iff, iff_false, Bool.not_eq_true', decide_eq_false_iff_not]
    omega
theorem vclater_2 : VD (T rise.Φ cLater.roms []) (st0 cLater) wlater_2 := by
  intro ρ kn hp
  have hF : ρ.z.F = rise.Φ := kn.F
  simp only [h_nil, h_cons, d_le, d_eq, d_not, d_var, d_lit, d_cel, d_leq, d_fn, d_and, d_iff, IE.den, LE.den, AL.den, lenV, true_and, and_true, hF, pi1, pi2, pb1] at hp
  obtain ⟨p1, p2, p3⟩ := hp
  refine all_cons (show (ρ.z.F.b 1 [.int .i64 (ρ.i .i64 1), .int .i64 (ρ.i .i64 2), .int .i64 (ρ.i .i64 3), .int .i64 (ρ.i .i64 4)]) = false from ?_) (all_nil)
  all_goals try simp only [hF, pi1, pi2, pb1]
  all_goals
    apply beq_of
    simp only [later_iff, decide_eq_true_eq, Bool.false_eq_true, true_iff, iff_true, false_iff, iff_false, Bool.not_eq_true', decide_eq_false_iff_not]
    omega
theorem vclater_3 : VD (T rise.Φ cLater.roms []) (st0 cLater) wlater_3 := by
  intro ρ kn hp
  have hF : ρ.z.F = rise.Φ := kn.F
  simp only [h_nil, h_cons, d_le, d_eq, d_not, d_var, d_lit, d_cel, d_leq, d_fn, d_and, d_iff, IE.den, LE.den, AL.den, lenV, true_and, and_true, hF, pi1, pi2, pb1] at hp
  obtain ⟨p1, p2⟩ := hp
  refine all_cons (show (ρ.z.F.b 1 [.int .i64 (ρ.i .i64 1), .int .i64 (ρ.i .i64 2), .int .i64 (ρ.i .i64 3), .int .i64 (ρ.i .i64 4)]) = true from ?_) (all_nil)
  all_goals try simp only [hF, pi1, pi2, pb1]
  all_goals
    apply beq_of
    simp only [later_iff, decide_eq_true_eq, Bool.false_eq_true, true_iff, iff_true, false_iff, iff_false, Bool.not_eq_true', decide_eq_false_iff_not]
    omega
theorem vclater_4 : VD (T rise.Φ cLater.roms []) (st0 cLater) wlater_4 := by
  intro ρ kn hp
  have hF : ρ.z.F = rise.Φ := kn.F
  simp only [h_nil, h_cons, d_le, d_eq, d_not, d_var, d_lit, d_cel, d_leq, d_fn, d_and, d_iff, IE.den, LE.den, AL.den, lenV, true_and, and_true, hF, pi1, pi2, pb1] at hp
  have p1 := hp
  refine all_cons (show (ρ.z.F.b 1 [.int .i64 (ρ.i .i64 1), .int .i64 (ρ.i .i64 2), .int .i64 (ρ.i .i64 3), .int .i64 (ρ.i .i64 4)]) = false from ?_) (all_nil)
  all_goals try simp only [hF, pi1, pi2, pb1]
  all_goals
    apply beq_of
    simp only [later_iff, decide_eq_true_eq, Bool.false_eq_true, true_iff, iff_true, false_iff, iff_false, Bool.not_eq_true', decide_eq_false_iff_not]
    omega
theorem told_later : Sx.Told rise.Φ cLater := told_vw (cs := []) (all_nil) 4000 vwlater (by kernel_rfl) (by kernel_rfl) (by kernel_rfl) (post_nil rfl) (by kernel_rfl) (by kernel_rfl) (all_cons vclater_0 (all_cons vclater_1 (all_cons vclater_2 (all_cons vclater_3 (all_cons vclater_4 (all_nil))))))
noncomputable section
def wrefOrder_0 : VW := (VW.done [(BE.eq (IE.var .i64 2) (IE.var .i64 4)), (BE.eq (IE.var .i64 1) (IE.var .i64 3)), (BE.lit true)] (some [(G.i (IE.ite (BE.fn 1 (AL.int .i64 (IE.var .i64 1) (AL.int .i64 (IE.var .i64 2) (AL.int .i64 (IE.var .i64 3) (AL.int .i64 (IE.var .i64 4) AL.nil))))) (IE.lit 1) (IE.ite (BE.fn 1 (AL.int .i64 (IE.var .i64 3) (AL.int .i64 (IE.var .i64 4) (AL.int .i64 (IE.var .i64 1) (AL.int .i64 (IE.var .i64 2) AL.nil))))) (IE.lit (-1)) (IE.lit 0))) (IE.lit 0))]))
def wrefOrder_1 : VW := (VW.done [(BE.le (IE.var .i64 4) (IE.var .i64 2)), (BE.not (BE.eq (IE.var .i64 2) (IE.var .i64 4))), (BE.eq (IE.var .i64 1) (IE.var .i64 3)), (BE.lit true)] (some [(G.i (IE.ite (BE.fn 1 (AL.int .i64 (IE.var .i64 1) (AL.int .i64 (IE.var .i64 2) (AL.int .i64 (IE.var .i64 3) (AL.int .i64 (IE.var .i64 4) AL.nil))))) (IE.lit 1) (IE.ite (BE.fn 1 (AL.int .i64 (IE.var .i64 3) (AL.int .i64 (IE.var .i64 4) (AL.int .i64 (IE.var .i64 1) (AL.int .i64 (IE.var .i64 2) AL.nil))))) (IE.lit (-1)) (IE.lit 0))) (IE.lit 1))]))
def wrefOrder_2 : VW := (VW.done [(BE.not (BE.le (IE.var .i64 4) (IE.var .i64 2))), (BE.not (BE.eq (IE.var .i64 2) (IE.var .i64 4))), (BE.eq (IE.var .i64 1) (IE.var .i64 3)), (BE.lit true)] (some [(G.i (IE.ite (BE.fn 1 (AL.int .i64 (IE.var .i64 1) (AL.int .i64 (IE.var .i64 2) (AL.int .i64 (IE.var .i64 3) (AL.int .i64 (IE.var .i64 4) AL.nil))))) (IE.lit 1) (IE.ite (BE.fn 1 (AL.int .i64 (IE.var .i64 3) (AL.int .i64 (IE.var .i64 4) (AL.int .i64 (IE.var .i64 1) (AL.int .i64 (IE.var .i64 2) AL.nil))))) (IE.lit (-1)) (IE.lit 0))) (IE.lit (-1)))]))
def wrefOrder_3 : VW := (VW.done [(BE.le (IE.var .i64 3) (IE.var .i64 1)), (BE.not (BE.eq (IE.var .i64 1) (IE.var .i64 3))), (BE.lit true)] (some [(G.i (IE.ite (BE.fn 1 (AL.int .i64 (IE.var .i64 1) (AL.int .i64 (IE.var .i64 2) (AL.int .i64 (IE.var .i64 3) (AL.int .i64 (IE.var .i64 4) AL.nil))))) (IE.lit 1) (IE.ite (BE.fn 1 (AL.int .i64 (IE.var .i64 3) (AL.int .i64 (IE.var .i64 4) (AL.int .i64 (IE.var .i64 1) (AL.int .i64 (IE.var .i64 2) AL.nil))))) (IE.lit (-1)) (IE.lit 0))) (IE.lit 1))]))
def wrefOrder_4 : VW := (VW.done [(BE.not (BE.le (IE.var .i64 3) (IE.var .i64 1))), (BE.not (BE.eq (IE.var .i64 1) (IE.var .i64 3))), (BE.lit true)] (some [(G.i (IE.ite (BE.fn 1 (AL.int .i64 (IE.var .i64 1) (AL.int .i64 (IE.var .i64 2) (AL.int .i64 (IE.var .i64 3) (AL.int .i64 (IE.var .i64 4) AL.nil))))) (IE.lit 1) (IE.ite (BE.fn 1 (AL.int .i64 (IE.var .i64 3) (AL.int .i64 (IE.var .i64 4) (AL.int .i64 (IE.var .i64 1) (AL.int .i64 (IE.var .i64 2) AL.nil))))) (IE.lit (-1)) (IE.lit 0))) (IE.lit (-1)))]))
def vwrefOrder : List VW := [wrefOrder_0, wrefOrder_1, wrefOrder_2, wrefOrder_3, wrefOrder_4]
end
theorem vcrefOrder_0 : VD (T rise.Φ cRefOrder.roms []) (st0 cRefOrder) wrefOrder_0 := by
  intro ρ kn hp
  have hF : ρ.z.F = rise.Φ := kn.F
  simp only [h_nil, h_cons, d_le, d_eq, d_not, d_var, d_lit, d_cel, d_leq, d_fn, d_and, d_iff, IE.den, LE.den, AL.den, lenV, true_and, and_true, hF, pi1, pi2, pb1] at hp
  obtain ⟨p1, p2⟩ := hp
  refine all_cons (show (if (ρ.z.F.b 1 [.int .i64 (ρ.i .i64 1), .int .i64 (ρ.i .i64 2), .int .i64 (ρ.i .i64 3), .int .i64 (ρ.i .i64 4)]) then (1 : Int) else (if (ρ.z.F.b 1 [.int .i64 (ρ.i .i64 3), .int .i64 (ρ.i .i64 4), .int .i64 (ρ.i .i64 1), .int .i64 (ρ.i .i64 2)]) then (-1 : Int) else (0 : Int))) = (0 : Int) from ?_) (all_nil)
  all_goals try simp only [hF, pi1, pi2, pb1]
  all_goals
    simp only [later_iff]
    repeat' split
    all_goals omega
theorem vcrefOrder_1 : VD (T rise.Φ cRefOrder.roms []) (st0 cRefOrder) wrefOrder_1 := by
  intro ρ kn hp
  have hF : ρ.z.F = rise.Φ := kn.F
  simp only [h_nil, h_cons, d_le, d_eq, d_not, d_var, d_lit, d_cel, d_leq, d_fn, d_and, d_iff, IE.den, LE.den, AL.den, lenV, true_and, and_true, hF, pi1, pi2, pb1] at hp
  obtain ⟨p1, p2, p3⟩ := hp
  refine all_cons (show (if (ρ.z.F.b 1 [.int .i64 (ρ.i .i64 1), .int .i64 (ρ.i .i64 2), .int .i64 (ρ.i .i64 3), .int .i64 (ρ.i .i64 4)]) then (1 : Int) else (if (ρ.z.F.b 1 [.int .i64 (ρ.i .i64 3), .int .i64 (ρ.i .i64 4), .int .i64 (ρ.i .i64 1), .int .i64 (ρ.i .i64 2)]) then (-1 : Int) else (0 : Int))) = (1 : Int) from ?_) (all_nil)
  all_goals try simp only [hF, pi1, pi2, pb1]
  all_goals
    simp only [later_iff]
    repeat' split
    all_goals omega
theorem vcrefOrder_2 : VD (T rise.Φ cRefOrder.roms []) (st0 cRefOrder) wrefOrder_2 := by
  intro ρ kn hp
  have hF : ρ.z.F = rise.Φ := kn.F
  simp only [h_nil, h_cons, d_le, d_eq, d_not, d_var, d_lit, d_cel, d_leq, d_fn, d_and, d_iff, IE.den, LE.den, AL.den, lenV, true_and, and_true, hF, pi1, pi2, pb1] at hp
  obtain ⟨p1, p2, p3⟩ := hp
  refine all_cons (show (if (ρ.z.F.b 1 [.int .i64 (ρ.i .i64 1), .int .i64 (ρ.i .i64 2), .int .i64 (ρ.i .i64 3), .int .i64 (ρ.i .i64 4)]) then (1 : Int) else (if (ρ.z.F.b 1 [.int .i64 (ρ.i .i64 3), .int .i64 (ρ.i .i64 4), .int .i64 (ρ.i .i64 1), .int .i64 (ρ.i .i64 2)]) then (-1 : Int) else (0 : Int))) = (-1 : Int) from ?_) (all_nil)
  all_goals try simp only [hF, pi1, pi2, pb1]
  all_goals
    simp only [later_iff]
    repeat' split
    all_goals omega
theorem vcrefOrder_3 : VD (T rise.Φ cRefOrder.roms []) (st0 cRefOrder) wrefOrder_3 := by
  intro ρ kn hp
  have hF : ρ.z.F = rise.Φ := kn.F
  simp only [h_nil, h_cons, d_le, d_eq, d_not, d_var, d_lit, d_cel, d_leq, d_fn, d_and, d_iff, IE.den, LE.den, AL.den, lenV, true_and, and_true, hF, pi1, pi2, pb1] at hp
  obtain ⟨p1, p2⟩ := hp
  refine all_cons (show (if (ρ.z.F.b 1 [.int .i64 (ρ.i .i64 1), .int .i64 (ρ.i .i64 2), .int .i64 (ρ.i .i64 3), .int .i64 (ρ.i .i64 4)]) then (1 : Int) else (if (ρ.z.F.b 1 [.int .i64 (ρ.i .i64 3), .int .i64 (ρ.i .i64 4), .int .i64 (ρ.i .i64 1), .int .i64 (ρ.i .i64 2)]) then (-1 : Int) else (0 : Int))) = (1 : Int) from ?_) (all_nil)
  all_goals try simp only [hF, pi1, pi2, pb1]
  all_goals
    simp only [later_iff]
    repeat' split
    all_goals omega
theorem vcrefOrder_4 : VD (T rise.Φ cRefOrder.roms []) (st0 cRefOrder) wrefOrder_4 := by
  intro ρ kn hp
  have hF : ρ.z.F = rise.Φ := kn.F
  simp only [h_nil, h_cons, d_le, d_eq, d_not, d_var, d_lit, d_cel, d_leq, d_fn, d_and, d_iff, IE.den, LE.den, AL.den, lenV, true_and, and_true, hF, pi1, pi2, pb1] at hp
  obtain ⟨p1, p2⟩ := hp
  refine all_cons (show (if (ρ.z.F.b 1 [.int .i64 (ρ.i .i64 1), .int .i64 (ρ.i .i64 2), .int .i64 (ρ.i .i64 3), .int .i64 (ρ.i .i64 4)]) then (1 : Int) else (if (ρ.z.F.b 1 [.int .i64 (ρ.i .i64 3), .int .i64 (ρ.i .i64 4), .int .i64 (ρ.i .i64 1), .int .i64 (ρ.i .i64 2)]) then (-1 : Int) else (0 : Int))) = (-1 : Int) from ?_) (all_nil)
  all_goals try simp only [hF, pi1, pi2, pb1]
  all_goals
    simp only [later_iff]
    repeat' split
    all_goals omega
theorem told_refOrder : Sx.Told rise.Φ cRefOrder := told_vw (cs := []) (all_nil) 4000 vwrefOrder (by kernel_rfl) (by kernel_rfl) (by kernel_rfl) (post_nil rfl) (by kernel_rfl) (by kernel_rfl) (all_cons vcrefOrder_0 (all_cons vcrefOrder_1 (all_cons vcrefOrder_2 (all_cons vcrefOrder_3 (all_cons vcrefOrder_4 (all_nil))))))
noncomputable section
def trefLatest1 : Cfg := { top := ⟨42, over (opqS 10000 23) [(0, (SV.rom 0 (IE.lit 0) (IE.len (LE.rom 0)) none)), (2, (SV.ptr 0 0)), (3, (SV.ptr 1 0)), (4, (SV.int .i64 (IE.var .i64 1000)))], ogt (loopTodo (bodyOf (T rise.Φ [] []) 42) 0), [], false, none⟩, rest := [], heap := [(0, .cells [(SV.int .i64 (IE.lit 0)), (SV.int .i64 (IE.lit 0))] 61), (1, .cells [(SV.int .i64 (IE.var .i64 1001)), (SV.int .i64 (IE.var .i64 1002))] 61)], next := 2, pc := .lit true :: ([] ++ [(BE.le (IE.lit 0) (IE.var .i64 1000)), (BE.le (IE.var .i64 1000) (IE.len (LE.rom 0)))]) }
def tmrefLatest : List (Nat × Cfg) := [(0, startF 42 cRefLatest.pat [.lit true]), (1, trefLatest1)]
def selrefLatest : Sel := [(42, 1, 0, 1)]
def wrefLatest0_0 : VW := (VW.cut 1 [(BE.lit true)] (Sx.Sub.mk [(.i64, (1002, (IE.lit 0))), (.i64, (1001, (IE.lit 0))), (.i64, (1000, (IE.lit 0)))] [] [] [] [] []))
def vwrefLatest0 : List VW := [wrefLatest0_0]
def wrefLatest1_0 : VW := (VW.done [(BE.le (IE.len (LE.rom 0)) (IE.var .i64 1000)), (BE.lit true), (BE.le (IE.lit 0) (IE.var .i64 1000)), (BE.le (IE.var .i64 1000) (IE.len (LE.rom 0)))] (some [(G.i (IE.fn .i64 1 (AL.lst (LE.rom 0) AL.nil)) (IE.var .i64 1001)), (G.i (IE.fn .i64 2 (AL.lst (LE.rom 0) AL.nil)) (IE.var .i64 1002))]))
def wrefLatest1_1 : VW := (VW.cut 1 [(BE.le (IE.ite (BE.fn 1 (AL.int .i64 (IE.cel .i64 (LE.rom 0) (IE.var .i64 1000) 0) (AL.int .i64 (IE.cel .i64 (LE.rom 0) (IE.var .i64 1000) 1) (AL.int .i64 (IE.var .i64 1001) (AL.int .i64 (IE.var .i64 1002) AL.nil))))) (IE.lit 1) (IE.ite (BE.fn 1 (AL.int .i64 (IE.var .i64 1001) (AL.int .i64 (IE.var .i64 1002) (AL.int .i64 (IE.cel .i64 (LE.rom 0) (IE.var .i64 1000) 0) (AL.int .i64 (IE.cel .i64 (LE.rom 0) (IE.var .i64 1000) 1) AL.nil))))) (IE.lit (-1)) (IE.lit 0))) (IE.lit 0)), (BE.not (BE.le (IE.len (LE.rom 0)) (IE.var .i64 1000))), (BE.lit true), (BE.le (IE.lit 0) (IE.var .i64 1000)), (BE.le (IE.var .i64 1000) (IE.len (LE.rom 0)))] (Sx.Sub.mk [(.i64, (1002, (IE.var .i64 1002))), (.i64, (1001, (IE.var .i64 1001))), (.i64, (1000, (IE.add (IE.var .i64 1000) (IE.lit 1))))] [] [] [] [] []))
def wrefLatest1_2 : VW := (VW.cut 1 [(BE.not (BE.le (IE.ite (BE.fn 1 (AL.int .i64 (IE.cel .i64 (LE.rom 0) (IE.var .i64 1000) 0) (AL.int .i64 (IE.cel .i64 (LE.rom 0) (IE.var .i64 1000) 1) (AL.int .i64 (IE.var .i64 1001) (AL.int .i64 (IE.var .i64 1002) AL.nil))))) (IE.lit 1) (IE.ite (BE.fn 1 (AL.int .i64 (IE.var .i64 1001) (AL.int .i64 (IE.var .i64 1002) (AL.int .i64 (IE.cel .i64 (LE.rom 0) (IE.var .i64 1000) 0) (AL.int .i64 (IE.cel .i64 (LE.rom 0) (IE.var .i64 1000) 1) AL.nil))))) (IE.lit (-1)) (IE.lit 0))) (IE.lit 0))), (BE.not (BE.le (IE.len (LE.rom 0)) (IE.var .i64 1000))), (BE.lit true), (BE.le (IE.lit 0) (IE.var .i64 1000)), (BE.le (IE.var .i64 1000) (IE.len (LE.rom 0)))] (Sx.Sub.mk [(.i64, (1002, (IE.cel .i64 (LE.rom 0) (IE.var .i64 1000) 1))), (.i64, (1001, (IE.cel .i64 (LE.rom 0) (IE.var .i64 1000) 0))), (.i64, (1000, (IE.add (IE.var .i64 1000) (IE.lit 1))))] [] [] [] [] []))
def vwrefLatest1 : List VW := [wrefLatest1_0, wrefLatest1_1, wrefLatest1_2]
def vwrefLatest : Nat → List VW
  | 0 => vwrefLatest0
  | 1 => vwrefLatest1
  | _ => []
end
def invrefLatest : Nat → Lt → Prop
  | 1, l => (l.i .i64 1001) = (latA (l.z.rl 0) (l.i .i64 1000).toNat).1 ∧ (l.i .i64 1002) = (latA (l.z.rl 0) (l.i .i64 1000).toNat).2
  | _, _ => True
def msrefLatest : Nat → Lt → Nat
  | 0, l => (l.z.rl 0).length + 1
  | 1, l => (l.z.rl 0).length - (l.i .i64 1000).toNat
  | _, _ => 0
theorem vcrefLatest0_0 : VC (T rise.Φ cRefLatest.roms [cRefOrder]) invrefLatest msrefLatest 0 (startF 42 cRefLatest.pat [.lit true]) wrefLatest0_0 := by
  intro ρ kn hi hp
  have hF : ρ.z.F = rise.Φ := kn.F
  simp only [h_nil, h_cons, d_le, d_eq, d_not, d_var, d_lit, d_cel, d_leq, d_fn, d_and, d_iff, IE.den, LE.den, AL.den, lenV, true_and, and_true, hF, pi1, pi2, pb1] at hp
  refine (show ((0 : Int) = (latA (ρ.z.rl 0) (0 : Int).toNat).1 ∧ (0 : Int) = (latA (ρ.z.rl 0) (0 : Int).toNat).2) ∧ (((ρ.z.rl 0).length - (0 : Int).toNat : Nat) < (ρ.z.rl 0).length + 1) from ?_)
  exact ⟨⟨rfl, rfl⟩, by simp⟩
theorem vcrefLatest1_0 : VC (T rise.Φ cRefLatest.roms [cRefOrder]) invrefLatest msrefLatest 1 trefLatest1 wrefLatest1_0 := by
  intro ρ kn hi hp
  have hi : (ρ.i .i64 1001) = (latA (ρ.z.rl 0) (ρ.i .i64 1000).toNat).1 ∧ (ρ.i .i64 1002) = (latA (ρ.z.rl 0) (ρ.i .i64 1000).toNat).2 := hi
  have hF : ρ.z.F = rise.Φ := kn.F
  simp only [h_nil, h_cons, d_le, d_eq, d_not, d_var, d_lit, d_cel, d_leq, d_fn, d_and, d_iff, IE.den, LE.den, AL.den, lenV, true_and, and_true, hF, pi1, pi2, pb1] at hp
  obtain ⟨p1, p2, p3⟩ := hp
  refine all_cons (show (clampK .i64 (ρ.z.F.i 1 [.lst (ρ.z.rl 0)])) = (ρ.i .i64 1001) from ?_) (all_cons (show (clampK .i64 (ρ.z.F.i 2 [.lst (ρ.z.rl 0)])) = (ρ.i .i64 1002) from ?_) (all_nil))
  all_goals try simp only [hF, pi1, pi2, pb1]
  all_goals
    rw [show (ρ.z.rl 0).length = (ρ.i .i64 1000).toNat by omega]
    first
      | rw [← hi.1, clamp_in ρ kn.ok]
      | rw [← hi.2, clamp_in ρ kn.ok]
theorem vcrefLatest1_1 : VC (T rise.Φ cRefLatest.roms [cRefOrder]) invrefLatest msrefLatest 1 trefLatest1 wrefLatest1_1 := by
  intro ρ kn hi hp
  have hi : (ρ.i .i64 1001) = (latA (ρ.z.rl 0) (ρ.i .i64 1000).toNat).1 ∧ (ρ.i .i64 1002) = (latA (ρ.z.rl 0) (ρ.i .i64 1000).toNat).2 := hi
  have hF : ρ.z.F = rise.Φ := kn.F
  simp only [h_nil, h_cons, d_le, d_eq, d_not, d_var, d_lit, d_cel, d_leq, d_fn, d_and, d_iff, IE.den, LE.den, AL.den, lenV, true_and, and_true, hF, pi1, pi2, pb1] at hp
  obtain ⟨p1, p2, p3, p4⟩ := hp
  refine (show ((ρ.i .i64 1001) = (latA (ρ.z.rl 0) ((ρ.i .i64 1000) + (1 : Int)).toNat).1 ∧ (ρ.i .i64 1002) = (latA (ρ.z.rl 0) ((ρ.i .i64 1000) + (1 : Int)).toNat).2) ∧ (((ρ.z.rl 0).length - ((ρ.i .i64 1000) + (1 : Int)).toNat : Nat) < (ρ.z.rl 0).length - (ρ.i .i64 1000).toNat) from ?_)
  refine ⟨?_, by omega⟩
  rw [lat_s (by omega), if_neg]
  · exact hi
  · rw [← hi.1, ← hi.2]; exact ord_le p1
theorem vcrefLatest1_2 : VC (T rise.Φ cRefLatest.roms [cRefOrder]) invrefLatest msrefLatest 1 trefLatest1 wrefLatest1_2 := by
  intro ρ kn hi hp
  have hi : (ρ.i .i64 1001) = (latA (ρ.z.rl 0) (ρ.i .i64 1000).toNat).1 ∧ (ρ.i .i64 1002) = (latA (ρ.z.rl 0) (ρ.i .i64 1000).toNat).2 := hi
  have hF : ρ.z.F = rise.Φ := kn.F
  simp only [h_nil, h_cons, d_le, d_eq, d_not, d_var, d_lit, d_cel, d_leq, d_fn, d_and, d_iff, IE.den, LE.den, AL.den, lenV, true_and, and_true, hF, pi1, pi2, pb1] at hp
  obtain ⟨p1, p2, p3, p4⟩ := hp
  refine (show ((clampK .i64 (intV (celV (ρ.z.rl 0) (ρ.i .i64 1000) 0))) = (latA (ρ.z.rl 0) ((ρ.i .i64 1000) + (1 : Int)).toNat).1 ∧ (clampK .i64 (intV (celV (ρ.z.rl 0) (ρ.i .i64 1000) 1))) = (latA (ρ.z.rl 0) ((ρ.i .i64 1000) + (1 : Int)).toNat).2) ∧ (((ρ.z.rl 0).length - ((ρ.i .i64 1000) + (1 : Int)).toNat : Nat) < (ρ.z.rl 0).length - (ρ.i .i64 1000).toNat) from ?_)
  refine ⟨?_, by omega⟩
  rw [lat_s (by omega), if_pos]
  · exact ⟨rfl, rfl⟩
  · rw [← hi.1, ← hi.2]; exact ord_gt p1
theorem vcsrefLatest0 : ∀ v ∈ vwrefLatest 0, VC (T rise.Φ cRefLatest.roms [cRefOrder]) invrefLatest msrefLatest 0 (startF 42 cRefLatest.pat [.lit true]) v := all_cons vcrefLatest0_0 (all_nil)
theorem okrefLatest0 : cfgOk (startF 42 cRefLatest.pat [.lit true]) = true := by kernel_rfl
theorem sgrefLatest0 : segL cRefLatest.roms cRefLatest (seg (T rise.Φ cRefLatest.roms [cRefOrder]) selrefLatest 600 tmrefLatest (startF 42 cRefLatest.pat [.lit true])) = (true, codesR tmrefLatest (views (seg (T rise.Φ cRefLatest.roms [cRefOrder]) selrefLatest 600 tmrefLatest (startF 42 cRefLatest.pat [.lit true]))), vwrefLatest 0) := by kernel_rfl
theorem vcsrefLatest1 : ∀ v ∈ vwrefLatest 1, VC (T rise.Φ cRefLatest.roms [cRefOrder]) invrefLatest msrefLatest 1 trefLatest1 v := all_cons vcrefLatest1_0 (all_cons vcrefLatest1_1 (all_cons vcrefLatest1_2 (all_nil)))
theorem okrefLatest1 : cfgOk trefLatest1 = true := by kernel_rfl
theorem sgrefLatest1 : segL cRefLatest.roms cRefLatest (seg (T rise.Φ cRefLatest.roms [cRefOrder]) selrefLatest 600 tmrefLatest trefLatest1) = (true, codesR tmrefLatest (views (seg (T rise.Φ cRefLatest.roms [cRefOrder]) selrefLatest 600 tmrefLatest trefLatest1)), vwrefLatest 1) := by kernel_rfl
theorem lnrefLatest0 : ∀ ρ, Known (T rise.Φ cRefLatest.roms [cRefOrder]) (startF 42 cRefLatest.pat [.lit true]) ρ → invrefLatest 0 ρ.lt → Holds ρ (leanOf (Cfg.pc (startF 42 cRefLatest.pat [.lit true]))) := by
  intro ρ _ _
  exact (show Holds ρ [] from fun p hp => by cases hp)
theorem lnrefLatest1 : ∀ ρ, Known (T rise.Φ cRefLatest.roms [cRefOrder]) trefLatest1 ρ → invrefLatest 1 ρ.lt → Holds ρ (leanOf (Cfg.pc trefLatest1)) := by
  intro ρ _ _
  exact (show Holds ρ [] from fun p hp => by cases hp)
theorem told_refLatest : Sx.Told rise.Φ cRefLatest := by
  refine told_of (cs := [cRefOrder]) (all_cons told_refOrder (all_nil)) (sel := selrefLatest) 600 tmrefLatest invrefLatest msrefLatest vwrefLatest 0 (pc0 := [.lit true]) (by kernel_rfl) (by kernel_rfl) (by kernel_rfl) (post_nil rfl) ?_ ?_ ?_ rfl (fun ρ _ _ => by simp [Holds, BE.den]) (fun _ _ _ _ => trivial) ?_
  · intro k C h
    have := lk_mem h
    simp only [tmrefLatest, List.mem_cons, Prod.mk.injEq, List.not_mem_nil, or_false] at this
    rcases this with ⟨rfl, rfl⟩ | ⟨rfl, rfl⟩
    · exact okrefLatest0
    · exact okrefLatest1
  · intro k C h
    have := lk_mem h
    simp only [tmrefLatest, List.mem_cons, Prod.mk.injEq, List.not_mem_nil, or_false] at this
    rcases this with ⟨rfl, rfl⟩ | ⟨rfl, rfl⟩
    · exact sgrefLatest0
    · exact sgrefLatest1
  · intro k C h
    have := lk_mem h
    simp only [tmrefLatest, List.mem_cons, Prod.mk.injEq, List.not_mem_nil, or_false] at this
    rcases this with ⟨rfl, rfl⟩ | ⟨rfl, rfl⟩
    · exact vcsrefLatest0
    · exact vcsrefLatest1
  · intro k C h
    have := lk_mem h
    simp only [tmrefLatest, List.mem_cons, Prod.mk.injEq, List.not_mem_nil, or_false] at this
    rcases this with ⟨rfl, rfl⟩ | ⟨rfl, rfl⟩
    · exact lnrefLatest0
    · exact lnrefLatest1
noncomputable section
def tlatest1 : Cfg := { top := ⟨65, over (opqS 10000 21) [(1, (SV.func (Go.Fn.func 66) [] [])), (3, (SV.ptr 1 0)), (6, (SV.ptr 2 0)), (9, (SV.rom 0 (IE.lit 0) (IE.len (LE.rom 0)) none)), (10, (SV.int .i64 (IE.len (LE.rom 0)))), (11, (SV.int .i64 (IE.var .i64 1000)))], ogt (loopTodo (bodyOf (T rise.Φ [] []) 65) 0), [], false, none⟩, rest := [⟨41, over (opqS 30000 6) [(2, (SV.ptr 0 0))], ogt (callTodo (bodyOf (T rise.Φ [] []) 41) 1 [2, 3]), [], false, none⟩], heap := [(1, .cells [(SV.int .i64 (IE.var .i64 1001)), (SV.int .i64 (IE.var .i64 1002))] 61), (2, .cells [(SV.int .i64 (IE.lit 0)), (SV.int .i64 (IE.lit 0))] 61), (0, .cells [(SV.int .i64 (IE.lit 0)), (SV.int .i64 (IE.lit 0))] 61)], next := 3, pc := .lit true :: ([] ++ [(BE.le (IE.lit 0) (IE.var .i64 1000)), (BE.le (IE.var .i64 1000) (IE.len (LE.rom 0)))]) }
def tmlatest : List (Nat × Cfg) := [(0, startF 41 cLatest.pat [.lit true]), (1, tlatest1)]
def sellatest : Sel := [(65, 1, 1, 1)]
def wlatest0_0 : VW := (VW.cut 1 [(BE.lit true)] (Sx.Sub.mk [(.i64, (1002, (IE.lit 0))), (.i64, (1001, (IE.lit 0))), (.i64, (1000, (IE.lit 0)))] [] [] [] [] []))
def vwlatest0 : List VW := [wlatest0_0]
def wlatest1_0 : VW := (VW.done [(BE.le (IE.len (LE.rom 0)) (IE.var .i64 1000)), (BE.lit true), (BE.le (IE.lit 0) (IE.var .i64 1000)), (BE.le (IE.var .i64 1000) (IE.len (LE.rom 0)))] (some [(G.i (IE.fn .i64 1 (AL.lst (LE.rom 0) AL.nil)) (IE.var .i64 1001)), (G.i (IE.fn .i64 2 (AL.lst (LE.rom 0) AL.nil)) (IE.var .i64 1002))]))
def wlatest1_1 : VW := (VW.cut 1 [(BE.fn 1 (AL.int .i64 (IE.cel .i64 (LE.rom 0) (IE.var .i64 1000) 0) (AL.int .i64 (IE.cel .i64 (LE.rom 0) (IE.var .i64 1000) 1) (AL.int .i64 (IE.var .i64 1001) (AL.int .i64 (IE.var .i64 1002) AL.nil))))), (BE.not (BE.le (IE.len (LE.rom 0)) (IE.var .i64 1000))), (BE.lit true), (BE.le (IE.lit 0) (IE.var .i64 1000)), (BE.le (IE.var .i64 1000) (IE.len (LE.rom 0)))] (Sx.Sub.mk [(.i64, (1002, (IE.cel .i64 (LE.rom 0) (IE.var .i64 1000) 1))), (.i64, (1001, (IE.cel .i64 (LE.rom 0) (IE.var .i64 1000) 0))), (.i64, (1000, (IE.add (IE.var .i64 1000) (IE.lit 1))))] [] [] [] [] []))
def wlatest1_2 : VW := (VW.cut 1 [(BE.not (BE.fn 1 (AL.int .i64 (IE.cel .i64 (LE.rom 0) (IE.var .i64 1000) 0) (AL.int .i64 (IE.cel .i64 (LE.rom 0) (IE.var .i64 1000) 1) (AL.int .i64 (IE.var .i64 1001) (AL.int .i64 (IE.var .i64 1002) AL.nil)))))), (BE.not (BE.le (IE.len (LE.rom 0)) (IE.var .i64 1000))), (BE.lit true), (BE.le (IE.lit 0) (IE.var .i64 1000)), (BE.le (IE.var .i64 1000) (IE.len (LE.rom 0)))] (Sx.Sub.mk [(.i64, (1002, (IE.var .i64 1002))), (.i64, (1001, (IE.var .i64 1001))), (.i64, (1000, (IE.add (IE.var .i64 1000) (IE.lit 1))))] [] [] [] [] []))
def vwlatest1 : List VW := [wlatest1_0, wlatest1_1, wlatest1_2]
def vwlatest : Nat → List VW
  | 0 => vwlatest0
  | 1 => vwlatest1
  | _ => []
end
def invlatest : Nat → Lt → Prop
  | 1, l => (l.i .i64 1001) = (latA (l.z.rl 0) (l.i .i64 1000).toNat).1 ∧ (l.i .i64 1002) = (latA (l.z.rl 0) (l.i .i64 1000).toNat).2
  | _, _ => True
def mslatest : Nat → Lt → Nat
  | 0, l => (l.z.rl 0).length + 1
  | 1, l => (l.z.rl 0).length - (l.i .i64 1000).toNat
  | _, _ => 0
theorem vclatest0_0 : VC (T rise.Φ cLatest.roms [cLater]) invlatest mslatest 0 (startF 41 cLatest.pat [.lit true]) wlatest0_0 := by
  intro ρ kn hi hp
  have hF : ρ.z.F = rise.Φ := kn.F
  simp only [h_nil, h_cons, d_le, d_eq, d_not, d_var, d_lit, d_cel, d_leq, d_fn, d_and, d_iff, IE.den, LE.den, AL.den, lenV, true_and, and_true, hF, pi1, pi2, pb1] at hp
  refine (show ((0 : Int) = (latA (ρ.z.rl 0) (0 : Int).toNat).1 ∧ (0 : Int) = (latA (ρ.z.rl 0) (0 : Int).toNat).2) ∧ (((ρ.z.rl 0).length - (0 : Int).toNat : Nat) < (ρ.z.rl 0).length + 1) from ?_)
  exact ⟨⟨rfl, rfl⟩, by simp⟩
theorem vclatest1_0 : VC (T rise.Φ cLatest.roms [cLater]) invlatest mslatest 1 tlatest1 wlatest1_0 := by
  intro ρ kn hi hp
  have hi : (ρ.i .i64 1001) = (latA (ρ.z.rl 0) (ρ.i .i64 1000).toNat).1 ∧ (ρ.i .i64 1002) = (latA (ρ.z.rl 0) (ρ.i .i64 1000).toNat).2 := hi
  have hF : ρ.z.F = rise.Φ := kn.F
  simp only [h_nil, h_cons, d_le, d_eq, d_not, d_var, d_lit, d_cel, d_leq, d_fn, d_and, d_iff, IE.den, LE.den, AL.den, lenV, true_and, and_true, hF, pi1, pi2, pb1] at hp
  obtain ⟨p1, p2, p3⟩ := hp
  refine all_cons (show (clampK .i64 (ρ.z.F.i 1 [.lst (ρ.z.rl 0)])) = (ρ.i .i64 1001) from ?_) (all_cons (show (clampK .i64 (ρ.z.F.i 2 [.lst (ρ.z.rl 0)])) = (ρ.i .i64 1002) from ?_) (all_nil))
  all_goals try simp only [hF, pi1, pi2, pb1]
  all_goals
    rw [show (ρ.z.rl 0).length = (ρ.i .i64 1000).toNat by omega]
    first
      | rw [← hi.1, clamp_in ρ kn.ok]
      | rw [← hi.2, clamp_in ρ kn.ok]
theorem vclatest1_1 : VC (T rise.Φ cLatest.roms [cLater]) invlatest mslatest 1 tlatest1 wlatest1_1 := by
  intro ρ kn hi hp
  have hi : (ρ.i .i64 1001) = (latA (ρ.z.rl 0) (ρ.i .i64 1000).toNat).1 ∧ (ρ.i .i64 1002) = (latA (ρ.z.rl 0) (ρ.i .i64 1000).toNat).2 := hi
  have hF : ρ.z.F = rise.Φ := kn.F
  simp only [h_nil, h_cons, d_le, d_eq, d_not, d_var, d_lit, d_cel, d_leq, d_fn, d_and, d_iff, IE.den, LE.den, AL.den, lenV, true_and, and_true, hF, pi1, pi2, pb1] at hp
  obtain ⟨p1, p2, p3, p4⟩ := hp
  refine (show ((clampK .i64 (intV (celV (ρ.z.rl 0) (ρ.i .i64 1000) 0))) = (latA (ρ.z.rl 0) ((ρ.i .i64 1000) + (1 : Int)).toNat).1 ∧ (clampK .i64 (intV (celV (ρ.z.rl 0) (ρ.i .i64 1000) 1))) = (latA (ρ.z.rl 0) ((ρ.i .i64 1000) + (1 : Int)).toNat).2) ∧ (((ρ.z.rl 0).length - ((ρ.i .i64 1000) + (1 : Int)).toNat : Nat) < (ρ.z.rl 0).length - (ρ.i .i64 1000).toNat) from ?_)
  refine ⟨?_, by omega⟩
  rw [lat_s (by omega), if_pos]
  · exact ⟨rfl, rfl⟩
  · rw [← hi.1, ← hi.2]; exact p1
theorem vclatest1_2 : VC (T rise.Φ cLatest.roms [cLater]) invlatest mslatest 1 tlatest1 wlatest1_2 := by
  intro ρ kn hi hp
  have hi : (ρ.i .i64 1001) = (latA (ρ.z.rl 0) (ρ.i .i64 1000).toNat).1 ∧ (ρ.i .i64 1002) = (latA (ρ.z.rl 0) (ρ.i .i64 1000).toNat).2 := hi
  have hF : ρ.z.F = rise.Φ := kn.F
  simp only [h_nil, h_cons, d_le, d_eq, d_not, d_var, d_lit, d_cel, d_leq, d_fn, d_and, d_iff, IE.den, LE.den, AL.den, lenV, true_and, and_true, hF, pi1, pi2, pb1] at hp
  obtain ⟨p1, p2, p3, p4⟩ := hp
  refine (show ((ρ.i .i64 1001) = (latA (ρ.z.rl 0) ((ρ.i .i64 1000) + (1 : Int)).toNat).1 ∧ (ρ.i .i64 1002) = (latA (ρ.z.rl 0) ((ρ.i .i64 1000) + (1 : Int)).toNat).2) ∧ (((ρ.z.rl 0).length - ((ρ.i .i64 1000) + (1 : Int)).toNat : Nat) < (ρ.z.rl 0).length - (ρ.i .i64 1000).toNat) from ?_)
  refine ⟨?_, by omega⟩
  rw [lat_s (by omega), if_neg]
  · exact hi
  · rw [← hi.1, ← hi.2]; exact p1
theorem vcslatest0 : ∀ v ∈ vwlatest 0, VC (T rise.Φ cLatest.roms [cLater]) invlatest mslatest 0 (startF 41 cLatest.pat [.lit true]) v := all_cons vclatest0_0 (all_nil)
theorem oklatest0 : cfgOk (startF 41 cLatest.pat [.lit true]) = true := by kernel_rfl
theorem sglatest0 : segL cLatest.roms cLatest (seg (T rise.Φ cLatest.roms [cLater]) sellatest 600 tmlatest (startF 41 cLatest.pat [.lit true])) = (true, codesR tmlatest (views (seg (T rise.Φ cLatest.roms [cLater]) sellatest 600 tmlatest (startF 41 cLatest.pat [.lit true]))), vwlatest 0) := by kernel_rfl
theorem vcslatest1 : ∀ v ∈ vwlatest 1, VC (T rise.Φ cLatest.roms [cLater]) invlatest mslatest 1 tlatest1 v := all_cons vclatest1_0 (all_cons vclatest1_1 (all_cons vclatest1_2 (all_nil)))
theorem oklatest1 : cfgOk tlatest1 = true := by kernel_rfl
theorem sglatest1 : segL cLatest.roms cLatest (seg (T rise.Φ cLatest.roms [cLater]) sellatest 600 tmlatest tlatest1) = (true, codesR tmlatest (views (seg (T rise.Φ cLatest.roms [cLater]) sellatest 600 tmlatest tlatest1)), vwlatest 1) := by kernel_rfl
theorem lnlatest0 : ∀ ρ, Known (T rise.Φ cLatest.roms [cLater]) (startF 41 cLatest.pat [.lit true]) ρ → invlatest 0 ρ.lt → Holds ρ (leanOf (Cfg.pc (startF 41 cLatest.pat [.lit true]))) := by
  intro ρ _ _
  exact (show Holds ρ [] from fun p hp => by cases hp)
theorem lnlatest1 : ∀ ρ, Known (T rise.Φ cLatest.roms [cLater]) tlatest1 ρ → invlatest 1 ρ.lt → Holds ρ (leanOf (Cfg.pc tlatest1)) := by
  intro ρ _ _
  exact (show Holds ρ [] from fun p hp => by cases hp)
theorem told_latest : Sx.Told rise.Φ cLatest := by
  refine told_of (cs := [cLater]) (all_cons told_later (all_nil)) (sel := sellatest) 600 tmlatest invlatest mslatest vwlatest 0 (pc0 := [.lit true]) (by kernel_rfl) (by kernel_rfl) (by kernel_rfl) (post_nil rfl) ?_ ?_ ?_ rfl (fun ρ _ _ => by simp [Holds, BE.den]) (fun _ _ _ _ => trivial) ?_
  · intro k C h
    have := lk_mem h
    simp only [tmlatest, List.mem_cons, Prod.mk.injEq, List.not_mem_nil, or_false] at this
    rcases this with ⟨rfl, rfl⟩ | ⟨rfl, rfl⟩
    · exact oklatest0
    · exact oklatest1
  · intro k C h
    have := lk_mem h
    simp only [tmlatest, List.mem_cons, Prod.mk.injEq, List.not_mem_nil, or_false] at this
    rcases this with ⟨rfl, rfl⟩ | ⟨rfl, rfl⟩
    · exact sglatest0
    · exact sglatest1
  · intro k C h
    have := lk_mem h
    simp only [tmlatest, List.mem_cons, Prod.mk.injEq, List.not_mem_nil, or_false] at this
    rcases this with ⟨rfl, rfl⟩ | ⟨rfl, rfl⟩
    · exact vcslatest0
    · exact vcslatest1
  · intro k C h
    have := lk_mem h
    simp only [tmlatest, List.mem_cons, Prod.mk.injEq, List.not_mem_nil, or_false] at this
    rcases this with ⟨rfl, rfl⟩ | ⟨rfl, rfl⟩
    · exact lnlatest0
    · exact lnlatest1
end Go.Proofs.Ytjgkaimgocnkmab.rise
