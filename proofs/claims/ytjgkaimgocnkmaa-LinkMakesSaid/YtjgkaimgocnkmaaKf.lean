/- Layer link: how two stamps stand, told ahead. No condition. -/
import Derived.Test.YtjgkaimgocnkmaaKe
set_option linter.unusedVariables false
set_option linter.unusedSimpArgs false
set_option linter.deprecated false
namespace Go.Proofs.Ytjgkaimgocnkmaa.link
open Go Go.Proofs.Ytjgkaimgocnkmaa.Sx
noncomputable section
def lt (a b : IE) : BE := .not (.le b a)
def ordC : IE := .ite (lt (xv 1) (xv 3)) (.lit (-1)) (.ite (lt (xv 3) (xv 1)) (.lit 1) (.ite (lt (xv 2) (xv 4)) (.lit (-1)) (.ite (lt (xv 4) (xv 2)) (.lit 1) (.lit 0))))
def cOrder : Ctr := ⟨44, [.agg [iv 1, iv 2], .agg [iv 3, iv 4]], [], [], .int .i64 ordC, [], 0, []⟩
def cRefOrder : Ctr := ⟨45, [.agg [iv 1, iv 2], .agg [iv 3, iv 4]], [], [], .int .i64 ordC, [], 0, []⟩
def vwOrder : List VW := [VW.done [BE.le (IE.var .i64 2) (IE.var .i64 4), BE.le (IE.var .i64 4) (IE.var .i64 2), BE.le (IE.var .i64 1) (IE.var .i64 3), BE.le (IE.var .i64 3) (IE.var .i64 1), BE.lit true] (some [G.i (IE.ite (BE.le (IE.var .i64 3) (IE.var .i64 1)).not (IE.lit (-1)) (IE.ite (BE.le (IE.var .i64 1) (IE.var .i64 3)).not (IE.lit 1) (IE.ite (BE.le (IE.var .i64 4) (IE.var .i64 2)).not (IE.lit (-1)) (IE.ite (BE.le (IE.var .i64 2) (IE.var .i64 4)).not (IE.lit 1) (IE.lit 0))))) (IE.lit 0)]), VW.done [(BE.le (IE.var .i64 2) (IE.var .i64 4)).not, BE.le (IE.var .i64 4) (IE.var .i64 2), BE.le (IE.var .i64 1) (IE.var .i64 3), BE.le (IE.var .i64 3) (IE.var .i64 1), BE.lit true] (some [G.i (IE.ite (BE.le (IE.var .i64 3) (IE.var .i64 1)).not (IE.lit (-1)) (IE.ite (BE.le (IE.var .i64 1) (IE.var .i64 3)).not (IE.lit 1) (IE.ite (BE.le (IE.var .i64 4) (IE.var .i64 2)).not (IE.lit (-1)) (IE.ite (BE.le (IE.var .i64 2) (IE.var .i64 4)).not (IE.lit 1) (IE.lit 0))))) (IE.lit 1)]), VW.done [(BE.le (IE.var .i64 4) (IE.var .i64 2)).not, BE.le (IE.var .i64 1) (IE.var .i64 3), BE.le (IE.var .i64 3) (IE.var .i64 1), BE.lit true] (some [G.i (IE.ite (BE.le (IE.var .i64 3) (IE.var .i64 1)).not (IE.lit (-1)) (IE.ite (BE.le (IE.var .i64 1) (IE.var .i64 3)).not (IE.lit 1) (IE.ite (BE.le (IE.var .i64 4) (IE.var .i64 2)).not (IE.lit (-1)) (IE.ite (BE.le (IE.var .i64 2) (IE.var .i64 4)).not (IE.lit 1) (IE.lit 0))))) (IE.lit (-1))]), VW.done [BE.le (IE.var .i64 2) (IE.var .i64 4), BE.le (IE.var .i64 4) (IE.var .i64 2), (BE.le (IE.var .i64 1) (IE.var .i64 3)).not, BE.le (IE.var .i64 3) (IE.var .i64 1), BE.lit true] (some [G.i (IE.ite (BE.le (IE.var .i64 3) (IE.var .i64 1)).not (IE.lit (-1)) (IE.ite (BE.le (IE.var .i64 1) (IE.var .i64 3)).not (IE.lit 1) (IE.ite (BE.le (IE.var .i64 4) (IE.var .i64 2)).not (IE.lit (-1)) (IE.ite (BE.le (IE.var .i64 2) (IE.var .i64 4)).not (IE.lit 1) (IE.lit 0))))) (IE.lit 1)]), VW.done [(BE.le (IE.var .i64 2) (IE.var .i64 4)).not, BE.le (IE.var .i64 4) (IE.var .i64 2), (BE.le (IE.var .i64 1) (IE.var .i64 3)).not, BE.le (IE.var .i64 3) (IE.var .i64 1), BE.lit true] (some [G.i (IE.ite (BE.le (IE.var .i64 3) (IE.var .i64 1)).not (IE.lit (-1)) (IE.ite (BE.le (IE.var .i64 1) (IE.var .i64 3)).not (IE.lit 1) (IE.ite (BE.le (IE.var .i64 4) (IE.var .i64 2)).not (IE.lit (-1)) (IE.ite (BE.le (IE.var .i64 2) (IE.var .i64 4)).not (IE.lit 1) (IE.lit 0))))) (IE.lit 1)]), VW.done [(BE.le (IE.var .i64 4) (IE.var .i64 2)).not, (BE.le (IE.var .i64 1) (IE.var .i64 3)).not, BE.le (IE.var .i64 3) (IE.var .i64 1), BE.lit true] (some [G.i (IE.ite (BE.le (IE.var .i64 3) (IE.var .i64 1)).not (IE.lit (-1)) (IE.ite (BE.le (IE.var .i64 1) (IE.var .i64 3)).not (IE.lit 1) (IE.ite (BE.le (IE.var .i64 4) (IE.var .i64 2)).not (IE.lit (-1)) (IE.ite (BE.le (IE.var .i64 2) (IE.var .i64 4)).not (IE.lit 1) (IE.lit 0))))) (IE.lit 1)]), VW.done [BE.le (IE.var .i64 2) (IE.var .i64 4), BE.le (IE.var .i64 4) (IE.var .i64 2), (BE.le (IE.var .i64 3) (IE.var .i64 1)).not, BE.lit true] (some [G.i (IE.ite (BE.le (IE.var .i64 3) (IE.var .i64 1)).not (IE.lit (-1)) (IE.ite (BE.le (IE.var .i64 1) (IE.var .i64 3)).not (IE.lit 1) (IE.ite (BE.le (IE.var .i64 4) (IE.var .i64 2)).not (IE.lit (-1)) (IE.ite (BE.le (IE.var .i64 2) (IE.var .i64 4)).not (IE.lit 1) (IE.lit 0))))) (IE.lit (-1))]), VW.done [(BE.le (IE.var .i64 2) (IE.var .i64 4)).not, BE.le (IE.var .i64 4) (IE.var .i64 2), (BE.le (IE.var .i64 3) (IE.var .i64 1)).not, BE.lit true] (some [G.i (IE.ite (BE.le (IE.var .i64 3) (IE.var .i64 1)).not (IE.lit (-1)) (IE.ite (BE.le (IE.var .i64 1) (IE.var .i64 3)).not (IE.lit 1) (IE.ite (BE.le (IE.var .i64 4) (IE.var .i64 2)).not (IE.lit (-1)) (IE.ite (BE.le (IE.var .i64 2) (IE.var .i64 4)).not (IE.lit 1) (IE.lit 0))))) (IE.lit (-1))]), VW.done [(BE.le (IE.var .i64 4) (IE.var .i64 2)).not, (BE.le (IE.var .i64 3) (IE.var .i64 1)).not, BE.lit true] (some [G.i (IE.ite (BE.le (IE.var .i64 3) (IE.var .i64 1)).not (IE.lit (-1)) (IE.ite (BE.le (IE.var .i64 1) (IE.var .i64 3)).not (IE.lit 1) (IE.ite (BE.le (IE.var .i64 4) (IE.var .i64 2)).not (IE.lit (-1)) (IE.ite (BE.le (IE.var .i64 2) (IE.var .i64 4)).not (IE.lit 1) (IE.lit 0))))) (IE.lit (-1))])]
def vwRefOrder : List VW := [VW.done [BE.eq (IE.var .i64 2) (IE.var .i64 4), BE.eq (IE.var .i64 1) (IE.var .i64 3), BE.lit true] (some [G.i (IE.ite (BE.le (IE.var .i64 3) (IE.var .i64 1)).not (IE.lit (-1)) (IE.ite (BE.le (IE.var .i64 1) (IE.var .i64 3)).not (IE.lit 1) (IE.ite (BE.le (IE.var .i64 4) (IE.var .i64 2)).not (IE.lit (-1)) (IE.ite (BE.le (IE.var .i64 2) (IE.var .i64 4)).not (IE.lit 1) (IE.lit 0))))) (IE.lit 0)]), VW.done [BE.le (IE.var .i64 4) (IE.var .i64 2), (BE.eq (IE.var .i64 2) (IE.var .i64 4)).not, BE.eq (IE.var .i64 1) (IE.var .i64 3), BE.lit true] (some [G.i (IE.ite (BE.le (IE.var .i64 3) (IE.var .i64 1)).not (IE.lit (-1)) (IE.ite (BE.le (IE.var .i64 1) (IE.var .i64 3)).not (IE.lit 1) (IE.ite (BE.le (IE.var .i64 4) (IE.var .i64 2)).not (IE.lit (-1)) (IE.ite (BE.le (IE.var .i64 2) (IE.var .i64 4)).not (IE.lit 1) (IE.lit 0))))) (IE.lit 1)]), VW.done [(BE.le (IE.var .i64 4) (IE.var .i64 2)).not, (BE.eq (IE.var .i64 2) (IE.var .i64 4)).not, BE.eq (IE.var .i64 1) (IE.var .i64 3), BE.lit true] (some [G.i (IE.ite (BE.le (IE.var .i64 3) (IE.var .i64 1)).not (IE.lit (-1)) (IE.ite (BE.le (IE.var .i64 1) (IE.var .i64 3)).not (IE.lit 1) (IE.ite (BE.le (IE.var .i64 4) (IE.var .i64 2)).not (IE.lit (-1)) (IE.ite (BE.le (IE.var .i64 2) (IE.var .i64 4)).not (IE.lit 1) (IE.lit 0))))) (IE.lit (-1))]), VW.done [BE.le (IE.var .i64 3) (IE.var .i64 1), (BE.eq (IE.var .i64 1) (IE.var .i64 3)).not, BE.lit true] (some [G.i (IE.ite (BE.le (IE.var .i64 3) (IE.var .i64 1)).not (IE.lit (-1)) (IE.ite (BE.le (IE.var .i64 1) (IE.var .i64 3)).not (IE.lit 1) (IE.ite (BE.le (IE.var .i64 4) (IE.var .i64 2)).not (IE.lit (-1)) (IE.ite (BE.le (IE.var .i64 2) (IE.var .i64 4)).not (IE.lit 1) (IE.lit 0))))) (IE.lit 1)]), VW.done [(BE.le (IE.var .i64 3) (IE.var .i64 1)).not, (BE.eq (IE.var .i64 1) (IE.var .i64 3)).not, BE.lit true] (some [G.i (IE.ite (BE.le (IE.var .i64 3) (IE.var .i64 1)).not (IE.lit (-1)) (IE.ite (BE.le (IE.var .i64 1) (IE.var .i64 3)).not (IE.lit 1) (IE.ite (BE.le (IE.var .i64 4) (IE.var .i64 2)).not (IE.lit (-1)) (IE.ite (BE.le (IE.var .i64 2) (IE.var .i64 4)).not (IE.lit 1) (IE.lit 0))))) (IE.lit (-1))])]
end
theorem told_order : Sx.Told Φ cOrder := by
  refine told_vw (cs := []) all_nil 4000 vwOrder (by kernel_rfl) (by kernel_rfl) (by kernel_rfl) (post_nil rfl) (by kernel_rfl) (by kernel_rfl) ?_
  repeat' first
    | exact all_nil
    | refine all_cons ?_ ?_
  all_goals
    intro ρ kn hp
    simp only [h_nil, h_cons, d_le, d_eq, d_not, d_var, d_lit, IE.den, LE.den, lenV, true_and, and_true] at hp
    first
      | exact all_nil
      | refine all_cons ?_ all_nil
        refine (show ordC.den ρ = _ from ?_)
        simp only [ordC, lt, xv, IE.den, d_not, d_le]
        repeat' split
        all_goals omega
theorem told_refOrder : Sx.Told Φ cRefOrder := by
  refine told_vw (cs := []) all_nil 4000 vwRefOrder (by kernel_rfl) (by kernel_rfl) (by kernel_rfl) (post_nil rfl) (by kernel_rfl) (by kernel_rfl) ?_
  repeat' first
    | exact all_nil
    | refine all_cons ?_ ?_
  all_goals
    intro ρ kn hp
    simp only [h_nil, h_cons, d_le, d_eq, d_not, d_var, d_lit, IE.den, LE.den, lenV, true_and, and_true] at hp
    first
      | exact all_nil
      | refine all_cons ?_ all_nil
        refine (show ordC.den ρ = _ from ?_)
        simp only [ordC, lt, xv, IE.den, d_not, d_le]
        repeat' split
        all_goals omega
noncomputable def csM : List Ctr := cOrder :: cRefOrder :: csK
theorem told_allM : ∀ d ∈ csM, Sx.Told Φ d := all_cons told_order (all_cons told_refOrder told_all)
end Go.Proofs.Ytjgkaimgocnkmaa.link
