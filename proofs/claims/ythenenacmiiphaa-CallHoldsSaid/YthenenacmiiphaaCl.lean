/- Layer call: does one text begin the other. No condition. -/
import Derived.Test.YthenenacmiiphaaCk
set_option linter.unusedVariables false
set_option linter.unusedSimpArgs false
set_option linter.deprecated false
namespace Go.Proofs.Ythenenacmiiphaa.oct
open Go Go.Proofs.Ythenenacmiiphaa.Sx
noncomputable section
abbrev TTbegins : Tab := T oct.Φ cBegins.roms []
abbrev pcbegins_0 : List BE := [(BE.lit true)]
def wbegins_0 : VW := (VW.done ((BE.le (IE.len (LE.var 1)) (IE.len (LE.var 3))) :: pcbegins_0) (some [(G.b (BE.fn 13 (AL.lst (LE.var 1) (AL.lst (LE.var 3) AL.nil))) (BE.leq (LE.var 1) (LE.take (LE.var 3) (IE.len (LE.var 1)))))]))
def wbegins_1 : VW := (VW.done ((BE.not (BE.le (IE.len (LE.var 1)) (IE.len (LE.var 3)))) :: pcbegins_0) (some [(G.b (BE.fn 13 (AL.lst (LE.var 1) (AL.lst (LE.var 3) AL.nil))) (BE.leq (LE.take (LE.var 1) (IE.len (LE.var 3))) (LE.var 3)))]))
def vwbegins : List VW := [wbegins_0, wbegins_1]
end
theorem vcbegins_0 : VD TTbegins (st0 cBegins) wbegins_0 := by
 intro ρ kn hp
 have hF : ρ.z.F = oct.Φ := kn.F
 simp only [h_nil, h_cons, d_le, d_eq, d_not, d_var, d_lit, d_cel, d_leq, d_fn, d_and, d_iff, IE.den, LE.den, AL.den, lenV, true_and, and_true, hF, pi2, pi3, pi4, pi5, pi6, pi7, pb13] at hp
 have p1 := hp
 refine all_cons (show (ρ.z.F.b 13 [.lst (ρ.l 1), .lst (ρ.l 3)]) = (eqV (ρ.l 1) ((ρ.l 3).take (((ρ.l 1).length : Nat) : Int).toNat)) from ?_) (all_nil)
 all_goals try simp only [hF, pi2, pi3, pi4, pi5, pi6, pi7, pb13]
 unfold begB
 rw [if_pos (by omega), Int.toNat_natCast]
theorem vcbegins_1 : VD TTbegins (st0 cBegins) wbegins_1 := by
 intro ρ kn hp
 have hF : ρ.z.F = oct.Φ := kn.F
 simp only [h_nil, h_cons, d_le, d_eq, d_not, d_var, d_lit, d_cel, d_leq, d_fn, d_and, d_iff, IE.den, LE.den, AL.den, lenV, true_and, and_true, hF, pi2, pi3, pi4, pi5, pi6, pi7, pb13] at hp
 have p1 := hp
 refine all_cons (show (ρ.z.F.b 13 [.lst (ρ.l 1), .lst (ρ.l 3)]) = (eqV ((ρ.l 1).take (((ρ.l 3).length : Nat) : Int).toNat) (ρ.l 3)) from ?_) (all_nil)
 all_goals try simp only [hF, pi2, pi3, pi4, pi5, pi6, pi7, pb13]
 unfold begB
 rw [if_neg (by omega), Int.toNat_natCast]
theorem told_begins : Sx.Told oct.Φ cBegins := told_vw (cs := []) (all_nil) 600 vwbegins (by kernel_rfl) (by kernel_rfl) (by kernel_rfl) (post_nil rfl) (by kernel_rfl) (by kernel_rfl) (all_cons vcbegins_0 (all_cons vcbegins_1 (all_nil)))
end Go.Proofs.Ythenenacmiiphaa.oct
