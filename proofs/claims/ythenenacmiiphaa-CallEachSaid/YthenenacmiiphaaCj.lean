/- Layer call: the asks that the program tries. No condition. -/
import Derived.Test.YthenenacmiiphaaCk0
set_option linter.unusedVariables false
set_option linter.unusedSimpArgs false
set_option linter.deprecated false
namespace Go.Proofs.Ythenenacmiiphaa.oct
open Go Go.Proofs.Ythenenacmiiphaa.Sx
noncomputable section
abbrev TTworks19e : Tab := T oct.Φ cWorks19.roms [cShp, cShpN]
abbrev pcworks19e_0 : List BE := [(BE.lit true)]
def wworks19e_0 : VW := (VW.done ((BE.fn 10 (AL.int .i64 (IE.lit 2) (AL.int .i64 (IE.lit 2) (AL.int .i64 (IE.lit 2) AL.nil)))) :: pcworks19e_0) (some []))
def wworks19e_1 : VW := (VW.done ((BE.not (BE.fn 10 (AL.int .i64 (IE.lit 2) (AL.int .i64 (IE.lit 2) (AL.int .i64 (IE.lit 2) AL.nil))))) :: pcworks19e_0) (some [(G.b (BE.lit true) (BE.lit false))]))
def vwworks19e : List VW := [wworks19e_0, wworks19e_1]
end
theorem vcworks19e_0 : VD TTworks19e (st0 cWorks19) wworks19e_0 := by
 intro ρ kn hp
 exact all_nil
theorem vcworks19e_1 : VD TTworks19e (st0 cWorks19) wworks19e_1 := by
 intro ρ kn hp
 have hF : ρ.z.F = oct.Φ := kn.F
 simp only [h_nil, h_cons, d_le, d_eq, d_not, d_var, d_lit, d_cel, d_leq, d_fn, d_and, d_iff, IE.den, LE.den, AL.den, lenV, true_and, and_true, hF, pi2, pi3, pi4, pi5, pi6, pi7, pl1, pb10, pb11, pb12, pl7, pl9] at hp
 have p1 := hp
 exfalso
 first
  | exact (p1 (by unfold shpR; decide)).elim
  | exact (hp (by unfold shpR; decide)).elim
theorem told_works19e : Sx.Told oct.Φ cWorks19 := told_vw (cs := [cShp, cShpN]) (all_cons told_shp (all_cons told_shpn (all_nil))) 60000 vwworks19e (by kernel_rfl) (by kernel_rfl) (by kernel_rfl) (post_nil rfl) (by kernel_rfl) (by kernel_rfl) (all_cons vcworks19e_0 (all_cons vcworks19e_1 (all_nil)))
end Go.Proofs.Ythenenacmiiphaa.oct
