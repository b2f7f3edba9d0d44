/- Layer site: the laws SiteOrders, SiteNumbers. No condition. -/
import Derived.Test.YtdfgidogiacmnaaDoorSf
set_option linter.unusedVariables false
set_option linter.unusedSimpArgs false
set_option linter.deprecated false
namespace Go.Proofs.YtdfgidogiacmnaaDoor.sit
open Go Go.Proofs.YtdfgidogiacmnaaDoor.Sx
noncomputable section
abbrev TTorders : Tab := T sit.Φ cOrders.roms [cWorks, cChk1, cChk2, cShapeS, cOrder, cRefOrder]
def pcorders_0 : List BE := [(BE.lit true)]
def worders_0 : VW := (VW.done ((BE.eq (IE.fn .i64 3 (AL.int .i64 (IE.var .i64 5) (AL.int .i64 (IE.var .i64 6) (AL.int .i64 (IE.var .i64 7) (AL.int .i64 (IE.var .i64 8) (AL.int .i64 (IE.var .i64 1) (AL.int .i64 (IE.var .i64 2) (AL.int .i64 (IE.var .i64 3) (AL.int .i64 (IE.var .i64 4) AL.nil))))))))) (IE.wrap .i64 (IE.sub (IE.lit 0) (IE.fn .i64 3 (AL.int .i64 (IE.var .i64 1) (AL.int .i64 (IE.var .i64 2) (AL.int .i64 (IE.var .i64 3) (AL.int .i64 (IE.var .i64 4) (AL.int .i64 (IE.var .i64 5) (AL.int .i64 (IE.var .i64 6) (AL.int .i64 (IE.var .i64 7) (AL.int .i64 (IE.var .i64 8) AL.nil)))))))))))) :: pcorders_0) (some []))
def worders_1 : VW := (VW.done ((BE.not (BE.eq (IE.fn .i64 3 (AL.int .i64 (IE.var .i64 5) (AL.int .i64 (IE.var .i64 6) (AL.int .i64 (IE.var .i64 7) (AL.int .i64 (IE.var .i64 8) (AL.int .i64 (IE.var .i64 1) (AL.int .i64 (IE.var .i64 2) (AL.int .i64 (IE.var .i64 3) (AL.int .i64 (IE.var .i64 4) AL.nil))))))))) (IE.wrap .i64 (IE.sub (IE.lit 0) (IE.fn .i64 3 (AL.int .i64 (IE.var .i64 1) (AL.int .i64 (IE.var .i64 2) (AL.int .i64 (IE.var .i64 3) (AL.int .i64 (IE.var .i64 4) (AL.int .i64 (IE.var .i64 5) (AL.int .i64 (IE.var .i64 6) (AL.int .i64 (IE.var .i64 7) (AL.int .i64 (IE.var .i64 8) AL.nil))))))))))))) :: pcorders_0) (some [(G.b (BE.lit true) (BE.lit false))]))
def vworders : List VW := [worders_0, worders_1]
end
theorem vcorders_0 : VD TTorders (st0 cOrders) worders_0 := by
  intro ρ kn hp
  exact all_nil
theorem vcorders_1 : VD TTorders (st0 cOrders) worders_1 := by
  intro ρ kn hp
  have hF : ρ.z.F = sit.Φ := kn.F
  simp only [h_nil, h_cons, d_le, d_eq, d_not, d_var, d_lit, d_cel, d_leq, d_fn, d_and, d_iff, IE.den, LE.den, AL.den, lenV, true_and, and_true, pcorders_0, hF, pb2, pi1, pi3] at hp
  have p1 := hp
  exfalso
  all_goals
    have a := ord_anti (ρ.i .i64 1) (ρ.i .i64 2) (ρ.i .i64 3) (ρ.i .i64 4) (ρ.i .i64 5) (ρ.i .i64 6) (ρ.i .i64 7) (ρ.i .i64 8)
    have r := ord_rng (ρ.i .i64 1) (ρ.i .i64 2) (ρ.i .i64 3) (ρ.i .i64 4) (ρ.i .i64 5) (ρ.i .i64 6) (ρ.i .i64 7) (ρ.i .i64 8)
    have w := wr (x := 0 - ordN (ρ.i .i64 1) (ρ.i .i64 2) (ρ.i .i64 3) (ρ.i .i64 4) (ρ.i .i64 5) (ρ.i .i64 6) (ρ.i .i64 7) (ρ.i .i64 8)) (by omega) (by omega)
    simp only [clampO] at *
    omega
theorem told_orders : Sx.Told sit.Φ cOrders := told_vw (cs := [cWorks, cChk1, cChk2, cShapeS, cOrder, cRefOrder]) (all_cons told_works (all_cons told_chk1 (all_cons told_chk2 (all_cons told_shapeS (all_cons told_order (all_cons told_rorder (all_nil))))))) 4000 vworders (by kernel_rfl) (by kernel_rfl) (by kernel_rfl) (post_nil rfl) (by kernel_rfl) (by kernel_rfl) (all_cons vcorders_0 (all_cons vcorders_1 (all_nil)))
noncomputable section
abbrev TTnumbers : Tab := T sit.Φ cNumbers.roms [cWorks, cChk1, cChk2, cShapeS]
def pcnumbers_0 : List BE := [(BE.lit true)]
def pcnumbers_1 : List BE := ((BE.le (IE.lit 1) (IE.var .i64 1)) :: (BE.le (IE.var .i64 1) (IE.lit 64)) :: (BE.le (IE.lit 1) (IE.var .i64 2)) :: (BE.le (IE.var .i64 2) (IE.lit 8)) :: (BE.le (IE.lit 1) (IE.var .i64 3)) :: (BE.le (IE.var .i64 3) (IE.lit 4)) :: (BE.le (IE.lit 1) (IE.var .i64 1)) :: (BE.le (IE.var .i64 1) (IE.lit 64)) :: (BE.le (IE.lit 1) (IE.var .i64 2)) :: (BE.le (IE.var .i64 2) (IE.lit 8)) :: (BE.le (IE.lit 1) (IE.var .i64 3)) :: (BE.le (IE.var .i64 3) (IE.lit 4)) :: (BE.fn 2 (AL.int .i64 (IE.var .i64 1) (AL.int .i64 (IE.var .i64 2) (AL.int .i64 (IE.var .i64 3) AL.nil)))) :: pcnumbers_0)
def pcnumbers_2 : List BE := ((BE.le (IE.lit 0) (IE.var .i64 4)) :: pcnumbers_1)
def pcnumbers_3 : List BE := ((BE.not (BE.le (IE.lit 0) (IE.var .i64 4))) :: pcnumbers_1)
def pcnumbers_4 : List BE := ((BE.le (IE.lit 0) (IE.var .i64 5)) :: pcnumbers_2)
def pcnumbers_5 : List BE := ((BE.not (BE.le (IE.lit 0) (IE.var .i64 5))) :: pcnumbers_2)
def pcnumbers_6 : List BE := ((BE.le (IE.var .i64 4) (IE.sub (IE.var .i64 1) (IE.lit 1))) :: pcnumbers_4)
def pcnumbers_7 : List BE := ((BE.le (IE.lit 1) (IE.var .i64 1)) :: (BE.le (IE.var .i64 1) (IE.lit 64)) :: (BE.le (IE.lit 1) (IE.var .i64 2)) :: (BE.le (IE.var .i64 2) (IE.lit 8)) :: (BE.le (IE.lit 1) (IE.var .i64 3)) :: (BE.le (IE.var .i64 3) (IE.lit 4)) :: (BE.le (IE.lit 0) (IE.var .i64 5)) :: pcnumbers_3)
def pcnumbers_8 : List BE := ((BE.le (IE.lit 1) (IE.var .i64 1)) :: (BE.le (IE.var .i64 1) (IE.lit 64)) :: (BE.le (IE.lit 1) (IE.var .i64 2)) :: (BE.le (IE.var .i64 2) (IE.lit 8)) :: (BE.le (IE.lit 1) (IE.var .i64 3)) :: (BE.le (IE.var .i64 3) (IE.lit 4)) :: (BE.not (BE.le (IE.lit 0) (IE.var .i64 5))) :: pcnumbers_3)
def pcnumbers_9 : List BE := ((BE.le (IE.lit 1) (IE.var .i64 1)) :: (BE.le (IE.var .i64 1) (IE.lit 64)) :: (BE.le (IE.lit 1) (IE.var .i64 2)) :: (BE.le (IE.var .i64 2) (IE.lit 8)) :: (BE.le (IE.lit 1) (IE.var .i64 3)) :: (BE.le (IE.var .i64 3) (IE.lit 4)) :: (BE.not (BE.le (IE.var .i64 4) (IE.sub (IE.var .i64 1) (IE.lit 1)))) :: pcnumbers_4)
def pcnumbers_10 : List BE := ((BE.le (IE.lit 1) (IE.var .i64 1)) :: (BE.le (IE.var .i64 1) (IE.lit 64)) :: (BE.le (IE.lit 1) (IE.var .i64 2)) :: (BE.le (IE.var .i64 2) (IE.lit 8)) :: (BE.le (IE.lit 1) (IE.var .i64 3)) :: (BE.le (IE.var .i64 3) (IE.lit 4)) :: (BE.le (IE.var .i64 4) (IE.sub (IE.var .i64 1) (IE.lit 1))) :: pcnumbers_5)
def pcnumbers_11 : List BE := ((BE.le (IE.lit 1) (IE.var .i64 1)) :: (BE.le (IE.var .i64 1) (IE.lit 64)) :: (BE.le (IE.lit 1) (IE.var .i64 2)) :: (BE.le (IE.var .i64 2) (IE.lit 8)) :: (BE.le (IE.lit 1) (IE.var .i64 3)) :: (BE.le (IE.var .i64 3) (IE.lit 4)) :: (BE.not (BE.le (IE.var .i64 4) (IE.sub (IE.var .i64 1) (IE.lit 1)))) :: pcnumbers_5)
def pcnumbers_12 : List BE := ((BE.le (IE.lit 0) (IE.var .i64 6)) :: pcnumbers_7)
def pcnumbers_13 : List BE := ((BE.le (IE.lit 0) (IE.var .i64 6)) :: pcnumbers_8)
def pcnumbers_14 : List BE := ((BE.le (IE.lit 1) (IE.var .i64 1)) :: (BE.le (IE.var .i64 1) (IE.lit 64)) :: (BE.le (IE.lit 1) (IE.var .i64 2)) :: (BE.le (IE.var .i64 2) (IE.lit 8)) :: (BE.le (IE.lit 1) (IE.var .i64 3)) :: (BE.le (IE.var .i64 3) (IE.lit 4)) :: (BE.le (IE.var .i64 5) (IE.sub (IE.var .i64 3) (IE.lit 1))) :: pcnumbers_6)
def pcnumbers_15 : List BE := ((BE.le (IE.lit 1) (IE.var .i64 1)) :: (BE.le (IE.var .i64 1) (IE.lit 64)) :: (BE.le (IE.lit 1) (IE.var .i64 2)) :: (BE.le (IE.var .i64 2) (IE.lit 8)) :: (BE.le (IE.lit 1) (IE.var .i64 3)) :: (BE.le (IE.var .i64 3) (IE.lit 4)) :: (BE.not (BE.le (IE.var .i64 5) (IE.sub (IE.var .i64 3) (IE.lit 1)))) :: pcnumbers_6)
def pcnumbers_16 : List BE := ((BE.le (IE.lit 0) (IE.var .i64 6)) :: pcnumbers_9)
def pcnumbers_17 : List BE := ((BE.le (IE.lit 0) (IE.var .i64 6)) :: pcnumbers_10)
def pcnumbers_18 : List BE := ((BE.le (IE.lit 0) (IE.var .i64 6)) :: pcnumbers_11)
def pcnumbers_19 : List BE := ((BE.le (IE.lit 0) (IE.var .i64 6)) :: pcnumbers_14)
def pcnumbers_20 : List BE := ((BE.le (IE.lit 0) (IE.var .i64 6)) :: pcnumbers_15)
def pcnumbers_21 : List BE := ((BE.le (IE.lit 1) (IE.var .i64 1)) :: (BE.le (IE.var .i64 1) (IE.lit 64)) :: (BE.le (IE.lit 1) (IE.var .i64 2)) :: (BE.le (IE.var .i64 2) (IE.lit 8)) :: (BE.le (IE.lit 1) (IE.var .i64 3)) :: (BE.le (IE.var .i64 3) (IE.lit 4)) :: (BE.le (IE.var .i64 6) (IE.wrap .i64 (IE.sub (IE.wrap .i64 (IE.mul (IE.var .i64 1) (IE.var .i64 3))) (IE.lit 1)))) :: pcnumbers_12)
def pcnumbers_22 : List BE := ((BE.le (IE.lit 1) (IE.var .i64 1)) :: (BE.le (IE.var .i64 1) (IE.lit 64)) :: (BE.le (IE.lit 1) (IE.var .i64 2)) :: (BE.le (IE.var .i64 2) (IE.lit 8)) :: (BE.le (IE.lit 1) (IE.var .i64 3)) :: (BE.le (IE.var .i64 3) (IE.lit 4)) :: (BE.not (BE.le (IE.var .i64 6) (IE.wrap .i64 (IE.sub (IE.wrap .i64 (IE.mul (IE.var .i64 1) (IE.var .i64 3))) (IE.lit 1))))) :: pcnumbers_12)
def pcnumbers_23 : List BE := ((BE.le (IE.lit 1) (IE.var .i64 1)) :: (BE.le (IE.var .i64 1) (IE.lit 64)) :: (BE.le (IE.lit 1) (IE.var .i64 2)) :: (BE.le (IE.var .i64 2) (IE.lit 8)) :: (BE.le (IE.lit 1) (IE.var .i64 3)) :: (BE.le (IE.var .i64 3) (IE.lit 4)) :: (BE.le (IE.var .i64 6) (IE.wrap .i64 (IE.sub (IE.wrap .i64 (IE.mul (IE.var .i64 1) (IE.var .i64 3))) (IE.lit 1)))) :: pcnumbers_13)
def pcnumbers_24 : List BE := ((BE.le (IE.lit 1) (IE.var .i64 1)) :: (BE.le (IE.var .i64 1) (IE.lit 64)) :: (BE.le (IE.lit 1) (IE.var .i64 2)) :: (BE.le (IE.var .i64 2) (IE.lit 8)) :: (BE.le (IE.lit 1) (IE.var .i64 3)) :: (BE.le (IE.var .i64 3) (IE.lit 4)) :: (BE.not (BE.le (IE.var .i64 6) (IE.wrap .i64 (IE.sub (IE.wrap .i64 (IE.mul (IE.var .i64 1) (IE.var .i64 3))) (IE.lit 1))))) :: pcnumbers_13)
def pcnumbers_25 : List BE := ((BE.le (IE.lit 1) (IE.var .i64 1)) :: (BE.le (IE.var .i64 1) (IE.lit 64)) :: (BE.le (IE.lit 1) (IE.var .i64 2)) :: (BE.le (IE.var .i64 2) (IE.lit 8)) :: (BE.le (IE.lit 1) (IE.var .i64 3)) :: (BE.le (IE.var .i64 3) (IE.lit 4)) :: (BE.le (IE.var .i64 6) (IE.wrap .i64 (IE.sub (IE.wrap .i64 (IE.mul (IE.var .i64 1) (IE.var .i64 3))) (IE.lit 1)))) :: pcnumbers_16)
def pcnumbers_26 : List BE := ((BE.le (IE.lit 1) (IE.var .i64 1)) :: (BE.le (IE.var .i64 1) (IE.lit 64)) :: (BE.le (IE.lit 1) (IE.var .i64 2)) :: (BE.le (IE.var .i64 2) (IE.lit 8)) :: (BE.le (IE.lit 1) (IE.var .i64 3)) :: (BE.le (IE.var .i64 3) (IE.lit 4)) :: (BE.not (BE.le (IE.var .i64 6) (IE.wrap .i64 (IE.sub (IE.wrap .i64 (IE.mul (IE.var .i64 1) (IE.var .i64 3))) (IE.lit 1))))) :: pcnumbers_16)
def pcnumbers_27 : List BE := ((BE.le (IE.lit 1) (IE.var .i64 1)) :: (BE.le (IE.var .i64 1) (IE.lit 64)) :: (BE.le (IE.lit 1) (IE.var .i64 2)) :: (BE.le (IE.var .i64 2) (IE.lit 8)) :: (BE.le (IE.lit 1) (IE.var .i64 3)) :: (BE.le (IE.var .i64 3) (IE.lit 4)) :: (BE.le (IE.var .i64 6) (IE.wrap .i64 (IE.sub (IE.wrap .i64 (IE.mul (IE.var .i64 1) (IE.var .i64 3))) (IE.lit 1)))) :: pcnumbers_17)
def pcnumbers_28 : List BE := ((BE.le (IE.lit 1) (IE.var .i64 1)) :: (BE.le (IE.var .i64 1) (IE.lit 64)) :: (BE.le (IE.lit 1) (IE.var .i64 2)) :: (BE.le (IE.var .i64 2) (IE.lit 8)) :: (BE.le (IE.lit 1) (IE.var .i64 3)) :: (BE.le (IE.var .i64 3) (IE.lit 4)) :: (BE.not (BE.le (IE.var .i64 6) (IE.wrap .i64 (IE.sub (IE.wrap .i64 (IE.mul (IE.var .i64 1) (IE.var .i64 3))) (IE.lit 1))))) :: pcnumbers_17)
def pcnumbers_29 : List BE := ((BE.le (IE.lit 1) (IE.var .i64 1)) :: (BE.le (IE.var .i64 1) (IE.lit 64)) :: (BE.le (IE.lit 1) (IE.var .i64 2)) :: (BE.le (IE.var .i64 2) (IE.lit 8)) :: (BE.le (IE.lit 1) (IE.var .i64 3)) :: (BE.le (IE.var .i64 3) (IE.lit 4)) :: (BE.le (IE.var .i64 6) (IE.wrap .i64 (IE.sub (IE.wrap .i64 (IE.mul (IE.var .i64 1) (IE.var .i64 3))) (IE.lit 1)))) :: pcnumbers_18)
def pcnumbers_30 : List BE := ((BE.le (IE.lit 1) (IE.var .i64 1)) :: (BE.le (IE.var .i64 1) (IE.lit 64)) :: (BE.le (IE.lit 1) (IE.var .i64 2)) :: (BE.le (IE.var .i64 2) (IE.lit 8)) :: (BE.le (IE.lit 1) (IE.var .i64 3)) :: (BE.le (IE.var .i64 3) (IE.lit 4)) :: (BE.not (BE.le (IE.var .i64 6) (IE.wrap .i64 (IE.sub (IE.wrap .i64 (IE.mul (IE.var .i64 1) (IE.var .i64 3))) (IE.lit 1))))) :: pcnumbers_18)
def pcnumbers_31 : List BE := ((BE.le (IE.lit 1) (IE.var .i64 1)) :: (BE.le (IE.var .i64 1) (IE.lit 64)) :: (BE.le (IE.lit 1) (IE.var .i64 2)) :: (BE.le (IE.var .i64 2) (IE.lit 8)) :: (BE.le (IE.lit 1) (IE.var .i64 3)) :: (BE.le (IE.var .i64 3) (IE.lit 4)) :: (BE.le (IE.var .i64 6) (IE.wrap .i64 (IE.sub (IE.wrap .i64 (IE.mul (IE.var .i64 1) (IE.var .i64 3))) (IE.lit 1)))) :: pcnumbers_20)
def pcnumbers_32 : List BE := ((BE.le (IE.lit 1) (IE.var .i64 1)) :: (BE.le (IE.var .i64 1) (IE.lit 64)) :: (BE.le (IE.lit 1) (IE.var .i64 2)) :: (BE.le (IE.var .i64 2) (IE.lit 8)) :: (BE.le (IE.lit 1) (IE.var .i64 3)) :: (BE.le (IE.var .i64 3) (IE.lit 4)) :: (BE.not (BE.le (IE.var .i64 6) (IE.wrap .i64 (IE.sub (IE.wrap .i64 (IE.mul (IE.var .i64 1) (IE.var .i64 3))) (IE.lit 1))))) :: pcnumbers_20)
def pcnumbers_33 : List BE := ((BE.le (IE.lit 1) (IE.var .i64 1)) :: (BE.le (IE.var .i64 1) (IE.lit 64)) :: (BE.le (IE.lit 1) (IE.var .i64 2)) :: (BE.le (IE.var .i64 2) (IE.lit 8)) :: (BE.le (IE.lit 1) (IE.var .i64 3)) :: (BE.le (IE.var .i64 3) (IE.lit 4)) :: (BE.le (IE.lit 1) (IE.var .i64 1)) :: (BE.le (IE.var .i64 1) (IE.lit 64)) :: (BE.le (IE.lit 1) (IE.var .i64 2)) :: (BE.le (IE.var .i64 2) (IE.lit 8)) :: (BE.le (IE.lit 1) (IE.var .i64 3)) :: (BE.le (IE.var .i64 3) (IE.lit 4)) :: (BE.not (BE.le (IE.lit 0) (IE.var .i64 6))) :: pcnumbers_14)
def pcnumbers_34 : List BE := ((BE.le (IE.lit 1) (IE.var .i64 1)) :: (BE.le (IE.var .i64 1) (IE.lit 64)) :: (BE.le (IE.lit 1) (IE.var .i64 2)) :: (BE.le (IE.var .i64 2) (IE.lit 8)) :: (BE.le (IE.lit 1) (IE.var .i64 3)) :: (BE.le (IE.var .i64 3) (IE.lit 4)) :: (BE.le (IE.lit 1) (IE.var .i64 1)) :: (BE.le (IE.var .i64 1) (IE.lit 64)) :: (BE.le (IE.lit 1) (IE.var .i64 2)) :: (BE.le (IE.var .i64 2) (IE.lit 8)) :: (BE.le (IE.lit 1) (IE.var .i64 3)) :: (BE.le (IE.var .i64 3) (IE.lit 4)) :: (BE.le (IE.var .i64 6) (IE.wrap .i64 (IE.sub (IE.wrap .i64 (IE.mul (IE.var .i64 1) (IE.var .i64 3))) (IE.lit 1)))) :: pcnumbers_19)
def pcnumbers_35 : List BE := ((BE.le (IE.lit 1) (IE.var .i64 1)) :: (BE.le (IE.var .i64 1) (IE.lit 64)) :: (BE.le (IE.lit 1) (IE.var .i64 2)) :: (BE.le (IE.var .i64 2) (IE.lit 8)) :: (BE.le (IE.lit 1) (IE.var .i64 3)) :: (BE.le (IE.var .i64 3) (IE.lit 4)) :: (BE.le (IE.lit 1) (IE.var .i64 1)) :: (BE.le (IE.var .i64 1) (IE.lit 64)) :: (BE.le (IE.lit 1) (IE.var .i64 2)) :: (BE.le (IE.var .i64 2) (IE.lit 8)) :: (BE.le (IE.lit 1) (IE.var .i64 3)) :: (BE.le (IE.var .i64 3) (IE.lit 4)) :: (BE.not (BE.le (IE.var .i64 6) (IE.wrap .i64 (IE.sub (IE.wrap .i64 (IE.mul (IE.var .i64 1) (IE.var .i64 3))) (IE.lit 1))))) :: pcnumbers_19)
def pcnumbers_36 : List BE := ((BE.le (IE.lit 0) (IE.wrap .i64 (IE.add (IE.wrap .i64 (IE.mul (IE.var .i64 4) (IE.var .i64 3))) (IE.var .i64 5)))) :: pcnumbers_33)
def pcnumbers_37 : List BE := ((BE.le (IE.lit 0) (IE.wrap .i64 (IE.add (IE.wrap .i64 (IE.mul (IE.var .i64 4) (IE.var .i64 3))) (IE.var .i64 5)))) :: pcnumbers_34)
def pcnumbers_38 : List BE := ((BE.le (IE.lit 0) (IE.wrap .i64 (IE.add (IE.wrap .i64 (IE.mul (IE.var .i64 4) (IE.var .i64 3))) (IE.var .i64 5)))) :: pcnumbers_35)
def pcnumbers_39 : List BE := ((BE.le (IE.wrap .i64 (IE.add (IE.wrap .i64 (IE.mul (IE.var .i64 4) (IE.var .i64 3))) (IE.var .i64 5))) (IE.wrap .i64 (IE.sub (IE.wrap .i64 (IE.mul (IE.var .i64 1) (IE.var .i64 3))) (IE.lit 1)))) :: pcnumbers_36)
def pcnumbers_40 : List BE := ((BE.le (IE.wrap .i64 (IE.add (IE.wrap .i64 (IE.mul (IE.var .i64 4) (IE.var .i64 3))) (IE.var .i64 5))) (IE.wrap .i64 (IE.sub (IE.wrap .i64 (IE.mul (IE.var .i64 1) (IE.var .i64 3))) (IE.lit 1)))) :: pcnumbers_37)
def pcnumbers_41 : List BE := ((BE.le (IE.wrap .i64 (IE.add (IE.wrap .i64 (IE.mul (IE.var .i64 4) (IE.var .i64 3))) (IE.var .i64 5))) (IE.wrap .i64 (IE.sub (IE.wrap .i64 (IE.mul (IE.var .i64 1) (IE.var .i64 3))) (IE.lit 1)))) :: pcnumbers_38)
def pcnumbers_42 : List BE := ((BE.eq (IE.bin BinOp.quo .i64 (IE.wrap .i64 (IE.add (IE.wrap .i64 (IE.mul (IE.var .i64 4) (IE.var .i64 3))) (IE.var .i64 5))) (IE.var .i64 3)) (IE.var .i64 4)) :: pcnumbers_39)
def pcnumbers_43 : List BE := ((BE.eq (IE.bin BinOp.quo .i64 (IE.wrap .i64 (IE.add (IE.wrap .i64 (IE.mul (IE.var .i64 4) (IE.var .i64 3))) (IE.var .i64 5))) (IE.var .i64 3)) (IE.var .i64 4)) :: pcnumbers_40)
def pcnumbers_44 : List BE := ((BE.eq (IE.bin BinOp.quo .i64 (IE.wrap .i64 (IE.add (IE.wrap .i64 (IE.mul (IE.var .i64 4) (IE.var .i64 3))) (IE.var .i64 5))) (IE.var .i64 3)) (IE.var .i64 4)) :: pcnumbers_41)
def pcnumbers_45 : List BE := ((BE.eq (IE.bin BinOp.rem .i64 (IE.wrap .i64 (IE.add (IE.wrap .i64 (IE.mul (IE.var .i64 4) (IE.var .i64 3))) (IE.var .i64 5))) (IE.var .i64 3)) (IE.var .i64 5)) :: pcnumbers_43)
def pcnumbers_46 : List BE := ((BE.eq (IE.bin BinOp.rem .i64 (IE.wrap .i64 (IE.add (IE.wrap .i64 (IE.mul (IE.var .i64 4) (IE.var .i64 3))) (IE.var .i64 5))) (IE.var .i64 3)) (IE.var .i64 5)) :: pcnumbers_44)
def wnumbers_0 : VW := (VW.done ((BE.le (IE.wrap .i64 (IE.mul (IE.var .i64 1) (IE.var .i64 3))) (IE.var .i64 6)) :: pcnumbers_45) (some [(G.b (BE.lit true) (BE.lit false))]))
def wnumbers_1 : VW := (VW.done ((BE.not (BE.le (IE.wrap .i64 (IE.mul (IE.var .i64 1) (IE.var .i64 3))) (IE.var .i64 6))) :: pcnumbers_45) (some []))
def wnumbers_2 : VW := (VW.done ((BE.not (BE.eq (IE.bin BinOp.rem .i64 (IE.wrap .i64 (IE.add (IE.wrap .i64 (IE.mul (IE.var .i64 4) (IE.var .i64 3))) (IE.var .i64 5))) (IE.var .i64 3)) (IE.var .i64 5))) :: pcnumbers_43) (some [(G.b (BE.lit true) (BE.lit false))]))
def wnumbers_3 : VW := (VW.done ((BE.not (BE.eq (IE.bin BinOp.quo .i64 (IE.wrap .i64 (IE.add (IE.wrap .i64 (IE.mul (IE.var .i64 4) (IE.var .i64 3))) (IE.var .i64 5))) (IE.var .i64 3)) (IE.var .i64 4))) :: pcnumbers_40) (some [(G.b (BE.lit true) (BE.lit false))]))
def wnumbers_4 : VW := (VW.done ((BE.not (BE.le (IE.wrap .i64 (IE.add (IE.wrap .i64 (IE.mul (IE.var .i64 4) (IE.var .i64 3))) (IE.var .i64 5))) (IE.wrap .i64 (IE.sub (IE.wrap .i64 (IE.mul (IE.var .i64 1) (IE.var .i64 3))) (IE.lit 1))))) :: pcnumbers_37) (some [(G.b (BE.lit true) (BE.lit false))]))
def wnumbers_5 : VW := (VW.done ((BE.not (BE.le (IE.lit 0) (IE.wrap .i64 (IE.add (IE.wrap .i64 (IE.mul (IE.var .i64 4) (IE.var .i64 3))) (IE.var .i64 5))))) :: pcnumbers_34) (some [(G.b (BE.lit true) (BE.lit false))]))
def wnumbers_6 : VW := (VW.done ((BE.le (IE.wrap .i64 (IE.mul (IE.var .i64 1) (IE.var .i64 3))) (IE.var .i64 6)) :: pcnumbers_46) (some []))
def wnumbers_7 : VW := (VW.done ((BE.not (BE.le (IE.wrap .i64 (IE.mul (IE.var .i64 1) (IE.var .i64 3))) (IE.var .i64 6))) :: pcnumbers_46) (some [(G.b (BE.lit true) (BE.lit false))]))
def wnumbers_8 : VW := (VW.done ((BE.not (BE.eq (IE.bin BinOp.rem .i64 (IE.wrap .i64 (IE.add (IE.wrap .i64 (IE.mul (IE.var .i64 4) (IE.var .i64 3))) (IE.var .i64 5))) (IE.var .i64 3)) (IE.var .i64 5))) :: pcnumbers_44) (some [(G.b (BE.lit true) (BE.lit false))]))
def wnumbers_9 : VW := (VW.done ((BE.not (BE.eq (IE.bin BinOp.quo .i64 (IE.wrap .i64 (IE.add (IE.wrap .i64 (IE.mul (IE.var .i64 4) (IE.var .i64 3))) (IE.var .i64 5))) (IE.var .i64 3)) (IE.var .i64 4))) :: pcnumbers_41) (some [(G.b (BE.lit true) (BE.lit false))]))
def wnumbers_10 : VW := (VW.done ((BE.not (BE.le (IE.wrap .i64 (IE.add (IE.wrap .i64 (IE.mul (IE.var .i64 4) (IE.var .i64 3))) (IE.var .i64 5))) (IE.wrap .i64 (IE.sub (IE.wrap .i64 (IE.mul (IE.var .i64 1) (IE.var .i64 3))) (IE.lit 1))))) :: pcnumbers_38) (some [(G.b (BE.lit true) (BE.lit false))]))
def wnumbers_11 : VW := (VW.done ((BE.not (BE.le (IE.lit 0) (IE.wrap .i64 (IE.add (IE.wrap .i64 (IE.mul (IE.var .i64 4) (IE.var .i64 3))) (IE.var .i64 5))))) :: pcnumbers_35) (some [(G.b (BE.lit true) (BE.lit false))]))
def wnumbers_12 : VW := (VW.done ((BE.eq (IE.bin BinOp.rem .i64 (IE.wrap .i64 (IE.add (IE.wrap .i64 (IE.mul (IE.var .i64 4) (IE.var .i64 3))) (IE.var .i64 5))) (IE.var .i64 3)) (IE.var .i64 5)) :: pcnumbers_42) (some []))
def wnumbers_13 : VW := (VW.done ((BE.not (BE.eq (IE.bin BinOp.rem .i64 (IE.wrap .i64 (IE.add (IE.wrap .i64 (IE.mul (IE.var .i64 4) (IE.var .i64 3))) (IE.var .i64 5))) (IE.var .i64 3)) (IE.var .i64 5))) :: pcnumbers_42) (some [(G.b (BE.lit true) (BE.lit false))]))
def wnumbers_14 : VW := (VW.done ((BE.not (BE.eq (IE.bin BinOp.quo .i64 (IE.wrap .i64 (IE.add (IE.wrap .i64 (IE.mul (IE.var .i64 4) (IE.var .i64 3))) (IE.var .i64 5))) (IE.var .i64 3)) (IE.var .i64 4))) :: pcnumbers_39) (some [(G.b (BE.lit true) (BE.lit false))]))
def wnumbers_15 : VW := (VW.done ((BE.not (BE.le (IE.wrap .i64 (IE.add (IE.wrap .i64 (IE.mul (IE.var .i64 4) (IE.var .i64 3))) (IE.var .i64 5))) (IE.wrap .i64 (IE.sub (IE.wrap .i64 (IE.mul (IE.var .i64 1) (IE.var .i64 3))) (IE.lit 1))))) :: pcnumbers_36) (some [(G.b (BE.lit true) (BE.lit false))]))
def wnumbers_16 : VW := (VW.done ((BE.not (BE.le (IE.lit 0) (IE.wrap .i64 (IE.add (IE.wrap .i64 (IE.mul (IE.var .i64 4) (IE.var .i64 3))) (IE.var .i64 5))))) :: pcnumbers_33) (some [(G.b (BE.lit true) (BE.lit false))]))
def wnumbers_17 : VW := (VW.done ((BE.le (IE.wrap .i64 (IE.mul (IE.var .i64 1) (IE.var .i64 3))) (IE.var .i64 6)) :: pcnumbers_31) (some [(G.b (BE.lit true) (BE.lit false))]))
def wnumbers_18 : VW := (VW.done ((BE.not (BE.le (IE.wrap .i64 (IE.mul (IE.var .i64 1) (IE.var .i64 3))) (IE.var .i64 6))) :: pcnumbers_31) (some []))
def wnumbers_19 : VW := (VW.done ((BE.le (IE.wrap .i64 (IE.mul (IE.var .i64 1) (IE.var .i64 3))) (IE.var .i64 6)) :: pcnumbers_32) (some []))
def wnumbers_20 : VW := (VW.done ((BE.not (BE.le (IE.wrap .i64 (IE.mul (IE.var .i64 1) (IE.var .i64 3))) (IE.var .i64 6))) :: pcnumbers_32) (some [(G.b (BE.lit true) (BE.lit false))]))
def wnumbers_21 : VW := (VW.done ((BE.le (IE.lit 1) (IE.var .i64 1)) :: (BE.le (IE.var .i64 1) (IE.lit 64)) :: (BE.le (IE.lit 1) (IE.var .i64 2)) :: (BE.le (IE.var .i64 2) (IE.lit 8)) :: (BE.le (IE.lit 1) (IE.var .i64 3)) :: (BE.le (IE.var .i64 3) (IE.lit 4)) :: (BE.not (BE.le (IE.lit 0) (IE.var .i64 6))) :: pcnumbers_15) (some []))
def wnumbers_22 : VW := (VW.done ((BE.le (IE.wrap .i64 (IE.mul (IE.var .i64 1) (IE.var .i64 3))) (IE.var .i64 6)) :: pcnumbers_25) (some [(G.b (BE.lit true) (BE.lit false))]))
def wnumbers_23 : VW := (VW.done ((BE.not (BE.le (IE.wrap .i64 (IE.mul (IE.var .i64 1) (IE.var .i64 3))) (IE.var .i64 6))) :: pcnumbers_25) (some []))
def wnumbers_24 : VW := (VW.done ((BE.le (IE.wrap .i64 (IE.mul (IE.var .i64 1) (IE.var .i64 3))) (IE.var .i64 6)) :: pcnumbers_26) (some []))
def wnumbers_25 : VW := (VW.done ((BE.not (BE.le (IE.wrap .i64 (IE.mul (IE.var .i64 1) (IE.var .i64 3))) (IE.var .i64 6))) :: pcnumbers_26) (some [(G.b (BE.lit true) (BE.lit false))]))
def wnumbers_26 : VW := (VW.done ((BE.le (IE.lit 1) (IE.var .i64 1)) :: (BE.le (IE.var .i64 1) (IE.lit 64)) :: (BE.le (IE.lit 1) (IE.var .i64 2)) :: (BE.le (IE.var .i64 2) (IE.lit 8)) :: (BE.le (IE.lit 1) (IE.var .i64 3)) :: (BE.le (IE.var .i64 3) (IE.lit 4)) :: (BE.not (BE.le (IE.lit 0) (IE.var .i64 6))) :: pcnumbers_9) (some []))
def wnumbers_27 : VW := (VW.done ((BE.le (IE.wrap .i64 (IE.mul (IE.var .i64 1) (IE.var .i64 3))) (IE.var .i64 6)) :: pcnumbers_27) (some [(G.b (BE.lit true) (BE.lit false))]))
def wnumbers_28 : VW := (VW.done ((BE.not (BE.le (IE.wrap .i64 (IE.mul (IE.var .i64 1) (IE.var .i64 3))) (IE.var .i64 6))) :: pcnumbers_27) (some []))
def wnumbers_29 : VW := (VW.done ((BE.le (IE.wrap .i64 (IE.mul (IE.var .i64 1) (IE.var .i64 3))) (IE.var .i64 6)) :: pcnumbers_28) (some []))
def wnumbers_30 : VW := (VW.done ((BE.not (BE.le (IE.wrap .i64 (IE.mul (IE.var .i64 1) (IE.var .i64 3))) (IE.var .i64 6))) :: pcnumbers_28) (some [(G.b (BE.lit true) (BE.lit false))]))
def wnumbers_31 : VW := (VW.done ((BE.le (IE.lit 1) (IE.var .i64 1)) :: (BE.le (IE.var .i64 1) (IE.lit 64)) :: (BE.le (IE.lit 1) (IE.var .i64 2)) :: (BE.le (IE.var .i64 2) (IE.lit 8)) :: (BE.le (IE.lit 1) (IE.var .i64 3)) :: (BE.le (IE.var .i64 3) (IE.lit 4)) :: (BE.not (BE.le (IE.lit 0) (IE.var .i64 6))) :: pcnumbers_10) (some []))
def wnumbers_32 : VW := (VW.done ((BE.le (IE.wrap .i64 (IE.mul (IE.var .i64 1) (IE.var .i64 3))) (IE.var .i64 6)) :: pcnumbers_29) (some [(G.b (BE.lit true) (BE.lit false))]))
def wnumbers_33 : VW := (VW.done ((BE.not (BE.le (IE.wrap .i64 (IE.mul (IE.var .i64 1) (IE.var .i64 3))) (IE.var .i64 6))) :: pcnumbers_29) (some []))
def wnumbers_34 : VW := (VW.done ((BE.le (IE.wrap .i64 (IE.mul (IE.var .i64 1) (IE.var .i64 3))) (IE.var .i64 6)) :: pcnumbers_30) (some []))
def wnumbers_35 : VW := (VW.done ((BE.not (BE.le (IE.wrap .i64 (IE.mul (IE.var .i64 1) (IE.var .i64 3))) (IE.var .i64 6))) :: pcnumbers_30) (some [(G.b (BE.lit true) (BE.lit false))]))
def wnumbers_36 : VW := (VW.done ((BE.le (IE.lit 1) (IE.var .i64 1)) :: (BE.le (IE.var .i64 1) (IE.lit 64)) :: (BE.le (IE.lit 1) (IE.var .i64 2)) :: (BE.le (IE.var .i64 2) (IE.lit 8)) :: (BE.le (IE.lit 1) (IE.var .i64 3)) :: (BE.le (IE.var .i64 3) (IE.lit 4)) :: (BE.not (BE.le (IE.lit 0) (IE.var .i64 6))) :: pcnumbers_11) (some []))
def wnumbers_37 : VW := (VW.done ((BE.le (IE.wrap .i64 (IE.mul (IE.var .i64 1) (IE.var .i64 3))) (IE.var .i64 6)) :: pcnumbers_21) (some [(G.b (BE.lit true) (BE.lit false))]))
def wnumbers_38 : VW := (VW.done ((BE.not (BE.le (IE.wrap .i64 (IE.mul (IE.var .i64 1) (IE.var .i64 3))) (IE.var .i64 6))) :: pcnumbers_21) (some []))
def wnumbers_39 : VW := (VW.done ((BE.le (IE.wrap .i64 (IE.mul (IE.var .i64 1) (IE.var .i64 3))) (IE.var .i64 6)) :: pcnumbers_22) (some []))
def wnumbers_40 : VW := (VW.done ((BE.not (BE.le (IE.wrap .i64 (IE.mul (IE.var .i64 1) (IE.var .i64 3))) (IE.var .i64 6))) :: pcnumbers_22) (some [(G.b (BE.lit true) (BE.lit false))]))
def wnumbers_41 : VW := (VW.done ((BE.le (IE.lit 1) (IE.var .i64 1)) :: (BE.le (IE.var .i64 1) (IE.lit 64)) :: (BE.le (IE.lit 1) (IE.var .i64 2)) :: (BE.le (IE.var .i64 2) (IE.lit 8)) :: (BE.le (IE.lit 1) (IE.var .i64 3)) :: (BE.le (IE.var .i64 3) (IE.lit 4)) :: (BE.not (BE.le (IE.lit 0) (IE.var .i64 6))) :: pcnumbers_7) (some []))
def wnumbers_42 : VW := (VW.done ((BE.le (IE.wrap .i64 (IE.mul (IE.var .i64 1) (IE.var .i64 3))) (IE.var .i64 6)) :: pcnumbers_23) (some [(G.b (BE.lit true) (BE.lit false))]))
def wnumbers_43 : VW := (VW.done ((BE.not (BE.le (IE.wrap .i64 (IE.mul (IE.var .i64 1) (IE.var .i64 3))) (IE.var .i64 6))) :: pcnumbers_23) (some []))
def wnumbers_44 : VW := (VW.done ((BE.le (IE.wrap .i64 (IE.mul (IE.var .i64 1) (IE.var .i64 3))) (IE.var .i64 6)) :: pcnumbers_24) (some []))
def wnumbers_45 : VW := (VW.done ((BE.not (BE.le (IE.wrap .i64 (IE.mul (IE.var .i64 1) (IE.var .i64 3))) (IE.var .i64 6))) :: pcnumbers_24) (some [(G.b (BE.lit true) (BE.lit false))]))
def wnumbers_46 : VW := (VW.done ((BE.le (IE.lit 1) (IE.var .i64 1)) :: (BE.le (IE.var .i64 1) (IE.lit 64)) :: (BE.le (IE.lit 1) (IE.var .i64 2)) :: (BE.le (IE.var .i64 2) (IE.lit 8)) :: (BE.le (IE.lit 1) (IE.var .i64 3)) :: (BE.le (IE.var .i64 3) (IE.lit 4)) :: (BE.not (BE.le (IE.lit 0) (IE.var .i64 6))) :: pcnumbers_8) (some []))
def wnumbers_47 : VW := (VW.done ((BE.not (BE.fn 2 (AL.int .i64 (IE.var .i64 1) (AL.int .i64 (IE.var .i64 2) (AL.int .i64 (IE.var .i64 3) AL.nil))))) :: pcnumbers_0) (some []))
def vwnumbers : List VW := [wnumbers_0, wnumbers_1, wnumbers_2, wnumbers_3, wnumbers_4, wnumbers_5, wnumbers_6, wnumbers_7, wnumbers_8, wnumbers_9, wnumbers_10, wnumbers_11, wnumbers_12, wnumbers_13, wnumbers_14, wnumbers_15, wnumbers_16, wnumbers_17, wnumbers_18, wnumbers_19, wnumbers_20, wnumbers_21, wnumbers_22, wnumbers_23, wnumbers_24, wnumbers_25, wnumbers_26, wnumbers_27, wnumbers_28, wnumbers_29, wnumbers_30, wnumbers_31, wnumbers_32, wnumbers_33, wnumbers_34, wnumbers_35, wnumbers_36, wnumbers_37, wnumbers_38, wnumbers_39, wnumbers_40, wnumbers_41, wnumbers_42, wnumbers_43, wnumbers_44, wnumbers_45, wnumbers_46, wnumbers_47]
end
theorem vcnumbers_0 : VD TTnumbers (st0 cNumbers) wnumbers_0 := by
  intro ρ kn hp
  have hF : ρ.z.F = sit.Φ := kn.F
  simp only [h_nil, h_cons, d_le, d_eq, d_not, d_var, d_lit, d_cel, d_leq, d_fn, d_and, d_iff, IE.den, LE.den, AL.den, lenV, true_and, and_true, pcnumbers_45, pcnumbers_43, pcnumbers_40, pcnumbers_37, pcnumbers_34, pcnumbers_19, pcnumbers_14, pcnumbers_6, pcnumbers_4, pcnumbers_2, pcnumbers_1, pcnumbers_0, hF, pb2, pi1, pi3] at hp
  obtain ⟨p1, p2, p3, p4, p5, p6, p7, p8, p9, p10, p11, p12, p13, p14, p15, p16, p17, p18, p19, p20, p21, p22, p23, p24, p25, p26, p27, p28, p29, p30, p31, p32, p33, p34, p35, p36, p37, p38, p39, p40, p41, p42⟩ := hp
  exfalso
  all_goals
    obtain ⟨w1, w2, w3, w4⟩ := prod_in (n := ρ.i .i64 1) (s := ρ.i .i64 3) (by omega) (by omega) (by omega) (by omega)
    by_cases c : 0 ≤ ρ.i .i64 4 ∧ ρ.i .i64 4 ≤ ρ.i .i64 1 - 1 ∧ 0 ≤ ρ.i .i64 5 ∧ ρ.i .i64 5 ≤ ρ.i .i64 3 - 1
    · obtain ⟨d1, d2, d3, d4, d5⟩ := site_at (n := ρ.i .i64 1) (s := ρ.i .i64 3) (a := ρ.i .i64 4) (b := ρ.i .i64 5) (by omega) (by omega) (by omega) (by omega) c.1 c.2.1 c.2.2.1 c.2.2.2
      first
        | omega
        | (exfalso; first | omega | contradiction)
    · first
        | omega
        | (exfalso; omega)
theorem vcnumbers_1 : VD TTnumbers (st0 cNumbers) wnumbers_1 := by
  intro ρ kn hp
  exact all_nil
theorem vcnumbers_2 : VD TTnumbers (st0 cNumbers) wnumbers_2 := by
  intro ρ kn hp
  have hF : ρ.z.F = sit.Φ := kn.F
  simp only [h_nil, h_cons, d_le, d_eq, d_not, d_var, d_lit, d_cel, d_leq, d_fn, d_and, d_iff, IE.den, LE.den, AL.den, lenV, true_and, and_true, pcnumbers_43, pcnumbers_40, pcnumbers_37, pcnumbers_34, pcnumbers_19, pcnumbers_14, pcnumbers_6, pcnumbers_4, pcnumbers_2, pcnumbers_1, pcnumbers_0, hF, pb2, pi1, pi3] at hp
  obtain ⟨p1, p2, p3, p4, p5, p6, p7, p8, p9, p10, p11, p12, p13, p14, p15, p16, p17, p18, p19, p20, p21, p22, p23, p24, p25, p26, p27, p28, p29, p30, p31, p32, p33, p34, p35, p36, p37, p38, p39, p40, p41⟩ := hp
  exfalso
  all_goals
    obtain ⟨w1, w2, w3, w4⟩ := prod_in (n := ρ.i .i64 1) (s := ρ.i .i64 3) (by omega) (by omega) (by omega) (by omega)
    by_cases c : 0 ≤ ρ.i .i64 4 ∧ ρ.i .i64 4 ≤ ρ.i .i64 1 - 1 ∧ 0 ≤ ρ.i .i64 5 ∧ ρ.i .i64 5 ≤ ρ.i .i64 3 - 1
    · obtain ⟨d1, d2, d3, d4, d5⟩ := site_at (n := ρ.i .i64 1) (s := ρ.i .i64 3) (a := ρ.i .i64 4) (b := ρ.i .i64 5) (by omega) (by omega) (by omega) (by omega) c.1 c.2.1 c.2.2.1 c.2.2.2
      first
        | omega
        | (exfalso; first | omega | contradiction)
    · first
        | omega
        | (exfalso; omega)
theorem vcnumbers_3 : VD TTnumbers (st0 cNumbers) wnumbers_3 := by
  intro ρ kn hp
  have hF : ρ.z.F = sit.Φ := kn.F
  simp only [h_nil, h_cons, d_le, d_eq, d_not, d_var, d_lit, d_cel, d_leq, d_fn, d_and, d_iff, IE.den, LE.den, AL.den, lenV, true_and, and_true, pcnumbers_40, pcnumbers_37, pcnumbers_34, pcnumbers_19, pcnumbers_14, pcnumbers_6, pcnumbers_4, pcnumbers_2, pcnumbers_1, pcnumbers_0, hF, pb2, pi1, pi3] at hp
  obtain ⟨p1, p2, p3, p4, p5, p6, p7, p8, p9, p10, p11, p12, p13, p14, p15, p16, p17, p18, p19, p20, p21, p22, p23, p24, p25, p26, p27, p28, p29, p30, p31, p32, p33, p34, p35, p36, p37, p38, p39, p40⟩ := hp
  exfalso
  all_goals
    obtain ⟨w1, w2, w3, w4⟩ := prod_in (n := ρ.i .i64 1) (s := ρ.i .i64 3) (by omega) (by omega) (by omega) (by omega)
    by_cases c : 0 ≤ ρ.i .i64 4 ∧ ρ.i .i64 4 ≤ ρ.i .i64 1 - 1 ∧ 0 ≤ ρ.i .i64 5 ∧ ρ.i .i64 5 ≤ ρ.i .i64 3 - 1
    · obtain ⟨d1, d2, d3, d4, d5⟩ := site_at (n := ρ.i .i64 1) (s := ρ.i .i64 3) (a := ρ.i .i64 4) (b := ρ.i .i64 5) (by omega) (by omega) (by omega) (by omega) c.1 c.2.1 c.2.2.1 c.2.2.2
      first
        | omega
        | (exfalso; first | omega | contradiction)
    · first
        | omega
        | (exfalso; omega)
theorem vcnumbers_4 : VD TTnumbers (st0 cNumbers) wnumbers_4 := by
  intro ρ kn hp
  have hF : ρ.z.F = sit.Φ := kn.F
  simp only [h_nil, h_cons, d_le, d_eq, d_not, d_var, d_lit, d_cel, d_leq, d_fn, d_and, d_iff, IE.den, LE.den, AL.den, lenV, true_and, and_true, pcnumbers_37, pcnumbers_34, pcnumbers_19, pcnumbers_14, pcnumbers_6, pcnumbers_4, pcnumbers_2, pcnumbers_1, pcnumbers_0, hF, pb2, pi1, pi3] at hp
  obtain ⟨p1, p2, p3, p4, p5, p6, p7, p8, p9, p10, p11, p12, p13, p14, p15, p16, p17, p18, p19, p20, p21, p22, p23, p24, p25, p26, p27, p28, p29, p30, p31, p32, p33, p34, p35, p36, p37, p38, p39⟩ := hp
  exfalso
  all_goals
    obtain ⟨w1, w2, w3, w4⟩ := prod_in (n := ρ.i .i64 1) (s := ρ.i .i64 3) (by omega) (by omega) (by omega) (by omega)
    by_cases c : 0 ≤ ρ.i .i64 4 ∧ ρ.i .i64 4 ≤ ρ.i .i64 1 - 1 ∧ 0 ≤ ρ.i .i64 5 ∧ ρ.i .i64 5 ≤ ρ.i .i64 3 - 1
    · obtain ⟨d1, d2, d3, d4, d5⟩ := site_at (n := ρ.i .i64 1) (s := ρ.i .i64 3) (a := ρ.i .i64 4) (b := ρ.i .i64 5) (by omega) (by omega) (by omega) (by omega) c.1 c.2.1 c.2.2.1 c.2.2.2
      first
        | omega
        | (exfalso; first | omega | contradiction)
    · first
        | omega
        | (exfalso; omega)
theorem vcnumbers_5 : VD TTnumbers (st0 cNumbers) wnumbers_5 := by
  intro ρ kn hp
  have hF : ρ.z.F = sit.Φ := kn.F
  simp only [h_nil, h_cons, d_le, d_eq, d_not, d_var, d_lit, d_cel, d_leq, d_fn, d_and, d_iff, IE.den, LE.den, AL.den, lenV, true_and, and_true, pcnumbers_34, pcnumbers_19, pcnumbers_14, pcnumbers_6, pcnumbers_4, pcnumbers_2, pcnumbers_1, pcnumbers_0, hF, pb2, pi1, pi3] at hp
  obtain ⟨p1, p2, p3, p4, p5, p6, p7, p8, p9, p10, p11, p12, p13, p14, p15, p16, p17, p18, p19, p20, p21, p22, p23, p24, p25, p26, p27, p28, p29, p30, p31, p32, p33, p34, p35, p36, p37, p38⟩ := hp
  exfalso
  all_goals
    obtain ⟨w1, w2, w3, w4⟩ := prod_in (n := ρ.i .i64 1) (s := ρ.i .i64 3) (by omega) (by omega) (by omega) (by omega)
    by_cases c : 0 ≤ ρ.i .i64 4 ∧ ρ.i .i64 4 ≤ ρ.i .i64 1 - 1 ∧ 0 ≤ ρ.i .i64 5 ∧ ρ.i .i64 5 ≤ ρ.i .i64 3 - 1
    · obtain ⟨d1, d2, d3, d4, d5⟩ := site_at (n := ρ.i .i64 1) (s := ρ.i .i64 3) (a := ρ.i .i64 4) (b := ρ.i .i64 5) (by omega) (by omega) (by omega) (by omega) c.1 c.2.1 c.2.2.1 c.2.2.2
      first
        | omega
        | (exfalso; first | omega | contradiction)
    · first
        | omega
        | (exfalso; omega)
theorem vcnumbers_6 : VD TTnumbers (st0 cNumbers) wnumbers_6 := by
  intro ρ kn hp
  exact all_nil
theorem vcnumbers_7 : VD TTnumbers (st0 cNumbers) wnumbers_7 := by
  intro ρ kn hp
  have hF : ρ.z.F = sit.Φ := kn.F
  simp only [h_nil, h_cons, d_le, d_eq, d_not, d_var, d_lit, d_cel, d_leq, d_fn, d_and, d_iff, IE.den, LE.den, AL.den, lenV, true_and, and_true, pcnumbers_46, pcnumbers_44, pcnumbers_41, pcnumbers_38, pcnumbers_35, pcnumbers_19, pcnumbers_14, pcnumbers_6, pcnumbers_4, pcnumbers_2, pcnumbers_1, pcnumbers_0, hF, pb2, pi1, pi3] at hp
  obtain ⟨p1, p2, p3, p4, p5, p6, p7, p8, p9, p10, p11, p12, p13, p14, p15, p16, p17, p18, p19, p20, p21, p22, p23, p24, p25, p26, p27, p28, p29, p30, p31, p32, p33, p34, p35, p36, p37, p38, p39, p40, p41, p42⟩ := hp
  exfalso
  all_goals
    obtain ⟨w1, w2, w3, w4⟩ := prod_in (n := ρ.i .i64 1) (s := ρ.i .i64 3) (by omega) (by omega) (by omega) (by omega)
    by_cases c : 0 ≤ ρ.i .i64 4 ∧ ρ.i .i64 4 ≤ ρ.i .i64 1 - 1 ∧ 0 ≤ ρ.i .i64 5 ∧ ρ.i .i64 5 ≤ ρ.i .i64 3 - 1
    · obtain ⟨d1, d2, d3, d4, d5⟩ := site_at (n := ρ.i .i64 1) (s := ρ.i .i64 3) (a := ρ.i .i64 4) (b := ρ.i .i64 5) (by omega) (by omega) (by omega) (by omega) c.1 c.2.1 c.2.2.1 c.2.2.2
      first
        | omega
        | (exfalso; first | omega | contradiction)
    · first
        | omega
        | (exfalso; omega)
theorem vcnumbers_8 : VD TTnumbers (st0 cNumbers) wnumbers_8 := by
  intro ρ kn hp
  have hF : ρ.z.F = sit.Φ := kn.F
  simp only [h_nil, h_cons, d_le, d_eq, d_not, d_var, d_lit, d_cel, d_leq, d_fn, d_and, d_iff, IE.den, LE.den, AL.den, lenV, true_and, and_true, pcnumbers_44, pcnumbers_41, pcnumbers_38, pcnumbers_35, pcnumbers_19, pcnumbers_14, pcnumbers_6, pcnumbers_4, pcnumbers_2, pcnumbers_1, pcnumbers_0, hF, pb2, pi1, pi3] at hp
  obtain ⟨p1, p2, p3, p4, p5, p6, p7, p8, p9, p10, p11, p12, p13, p14, p15, p16, p17, p18, p19, p20, p21, p22, p23, p24, p25, p26, p27, p28, p29, p30, p31, p32, p33, p34, p35, p36, p37, p38, p39, p40, p41⟩ := hp
  exfalso
  all_goals
    obtain ⟨w1, w2, w3, w4⟩ := prod_in (n := ρ.i .i64 1) (s := ρ.i .i64 3) (by omega) (by omega) (by omega) (by omega)
    by_cases c : 0 ≤ ρ.i .i64 4 ∧ ρ.i .i64 4 ≤ ρ.i .i64 1 - 1 ∧ 0 ≤ ρ.i .i64 5 ∧ ρ.i .i64 5 ≤ ρ.i .i64 3 - 1
    · obtain ⟨d1, d2, d3, d4, d5⟩ := site_at (n := ρ.i .i64 1) (s := ρ.i .i64 3) (a := ρ.i .i64 4) (b := ρ.i .i64 5) (by omega) (by omega) (by omega) (by omega) c.1 c.2.1 c.2.2.1 c.2.2.2
      first
        | omega
        | (exfalso; first | omega | contradiction)
    · first
        | omega
        | (exfalso; omega)
theorem vcnumbers_9 : VD TTnumbers (st0 cNumbers) wnumbers_9 := by
  intro ρ kn hp
  have hF : ρ.z.F = sit.Φ := kn.F
  simp only [h_nil, h_cons, d_le, d_eq, d_not, d_var, d_lit, d_cel, d_leq, d_fn, d_and, d_iff, IE.den, LE.den, AL.den, lenV, true_and, and_true, pcnumbers_41, pcnumbers_38, pcnumbers_35, pcnumbers_19, pcnumbers_14, pcnumbers_6, pcnumbers_4, pcnumbers_2, pcnumbers_1, pcnumbers_0, hF, pb2, pi1, pi3] at hp
  obtain ⟨p1, p2, p3, p4, p5, p6, p7, p8, p9, p10, p11, p12, p13, p14, p15, p16, p17, p18, p19, p20, p21, p22, p23, p24, p25, p26, p27, p28, p29, p30, p31, p32, p33, p34, p35, p36, p37, p38, p39, p40⟩ := hp
  exfalso
  all_goals
    obtain ⟨w1, w2, w3, w4⟩ := prod_in (n := ρ.i .i64 1) (s := ρ.i .i64 3) (by omega) (by omega) (by omega) (by omega)
    by_cases c : 0 ≤ ρ.i .i64 4 ∧ ρ.i .i64 4 ≤ ρ.i .i64 1 - 1 ∧ 0 ≤ ρ.i .i64 5 ∧ ρ.i .i64 5 ≤ ρ.i .i64 3 - 1
    · obtain ⟨d1, d2, d3, d4, d5⟩ := site_at (n := ρ.i .i64 1) (s := ρ.i .i64 3) (a := ρ.i .i64 4) (b := ρ.i .i64 5) (by omega) (by omega) (by omega) (by omega) c.1 c.2.1 c.2.2.1 c.2.2.2
      first
        | omega
        | (exfalso; first | omega | contradiction)
    · first
        | omega
        | (exfalso; omega)
theorem vcnumbers_10 : VD TTnumbers (st0 cNumbers) wnumbers_10 := by
  intro ρ kn hp
  have hF : ρ.z.F = sit.Φ := kn.F
  simp only [h_nil, h_cons, d_le, d_eq, d_not, d_var, d_lit, d_cel, d_leq, d_fn, d_and, d_iff, IE.den, LE.den, AL.den, lenV, true_and, and_true, pcnumbers_38, pcnumbers_35, pcnumbers_19, pcnumbers_14, pcnumbers_6, pcnumbers_4, pcnumbers_2, pcnumbers_1, pcnumbers_0, hF, pb2, pi1, pi3] at hp
  obtain ⟨p1, p2, p3, p4, p5, p6, p7, p8, p9, p10, p11, p12, p13, p14, p15, p16, p17, p18, p19, p20, p21, p22, p23, p24, p25, p26, p27, p28, p29, p30, p31, p32, p33, p34, p35, p36, p37, p38, p39⟩ := hp
  exfalso
  all_goals
    obtain ⟨w1, w2, w3, w4⟩ := prod_in (n := ρ.i .i64 1) (s := ρ.i .i64 3) (by omega) (by omega) (by omega) (by omega)
    by_cases c : 0 ≤ ρ.i .i64 4 ∧ ρ.i .i64 4 ≤ ρ.i .i64 1 - 1 ∧ 0 ≤ ρ.i .i64 5 ∧ ρ.i .i64 5 ≤ ρ.i .i64 3 - 1
    · obtain ⟨d1, d2, d3, d4, d5⟩ := site_at (n := ρ.i .i64 1) (s := ρ.i .i64 3) (a := ρ.i .i64 4) (b := ρ.i .i64 5) (by omega) (by omega) (by omega) (by omega) c.1 c.2.1 c.2.2.1 c.2.2.2
      first
        | omega
        | (exfalso; first | omega | contradiction)
    · first
        | omega
        | (exfalso; omega)
theorem vcnumbers_11 : VD TTnumbers (st0 cNumbers) wnumbers_11 := by
  intro ρ kn hp
  have hF : ρ.z.F = sit.Φ := kn.F
  simp only [h_nil, h_cons, d_le, d_eq, d_not, d_var, d_lit, d_cel, d_leq, d_fn, d_and, d_iff, IE.den, LE.den, AL.den, lenV, true_and, and_true, pcnumbers_35, pcnumbers_19, pcnumbers_14, pcnumbers_6, pcnumbers_4, pcnumbers_2, pcnumbers_1, pcnumbers_0, hF, pb2, pi1, pi3] at hp
  obtain ⟨p1, p2, p3, p4, p5, p6, p7, p8, p9, p10, p11, p12, p13, p14, p15, p16, p17, p18, p19, p20, p21, p22, p23, p24, p25, p26, p27, p28, p29, p30, p31, p32, p33, p34, p35, p36, p37, p38⟩ := hp
  exfalso
  all_goals
    obtain ⟨w1, w2, w3, w4⟩ := prod_in (n := ρ.i .i64 1) (s := ρ.i .i64 3) (by omega) (by omega) (by omega) (by omega)
    by_cases c : 0 ≤ ρ.i .i64 4 ∧ ρ.i .i64 4 ≤ ρ.i .i64 1 - 1 ∧ 0 ≤ ρ.i .i64 5 ∧ ρ.i .i64 5 ≤ ρ.i .i64 3 - 1
    · obtain ⟨d1, d2, d3, d4, d5⟩ := site_at (n := ρ.i .i64 1) (s := ρ.i .i64 3) (a := ρ.i .i64 4) (b := ρ.i .i64 5) (by omega) (by omega) (by omega) (by omega) c.1 c.2.1 c.2.2.1 c.2.2.2
      first
        | omega
        | (exfalso; first | omega | contradiction)
    · first
        | omega
        | (exfalso; omega)
theorem vcnumbers_12 : VD TTnumbers (st0 cNumbers) wnumbers_12 := by
  intro ρ kn hp
  exact all_nil
theorem vcnumbers_13 : VD TTnumbers (st0 cNumbers) wnumbers_13 := by
  intro ρ kn hp
  have hF : ρ.z.F = sit.Φ := kn.F
  simp only [h_nil, h_cons, d_le, d_eq, d_not, d_var, d_lit, d_cel, d_leq, d_fn, d_and, d_iff, IE.den, LE.den, AL.den, lenV, true_and, and_true, pcnumbers_42, pcnumbers_39, pcnumbers_36, pcnumbers_33, pcnumbers_14, pcnumbers_6, pcnumbers_4, pcnumbers_2, pcnumbers_1, pcnumbers_0, hF, pb2, pi1, pi3] at hp
  obtain ⟨p1, p2, p3, p4, p5, p6, p7, p8, p9, p10, p11, p12, p13, p14, p15, p16, p17, p18, p19, p20, p21, p22, p23, p24, p25, p26, p27, p28, p29, p30, p31, p32, p33, p34, p35, p36, p37, p38, p39, p40⟩ := hp
  exfalso
  all_goals
    obtain ⟨w1, w2, w3, w4⟩ := prod_in (n := ρ.i .i64 1) (s := ρ.i .i64 3) (by omega) (by omega) (by omega) (by omega)
    by_cases c : 0 ≤ ρ.i .i64 4 ∧ ρ.i .i64 4 ≤ ρ.i .i64 1 - 1 ∧ 0 ≤ ρ.i .i64 5 ∧ ρ.i .i64 5 ≤ ρ.i .i64 3 - 1
    · obtain ⟨d1, d2, d3, d4, d5⟩ := site_at (n := ρ.i .i64 1) (s := ρ.i .i64 3) (a := ρ.i .i64 4) (b := ρ.i .i64 5) (by omega) (by omega) (by omega) (by omega) c.1 c.2.1 c.2.2.1 c.2.2.2
      first
        | omega
        | (exfalso; first | omega | contradiction)
    · first
        | omega
        | (exfalso; omega)
theorem vcnumbers_14 : VD TTnumbers (st0 cNumbers) wnumbers_14 := by
  intro ρ kn hp
  have hF : ρ.z.F = sit.Φ := kn.F
  simp only [h_nil, h_cons, d_le, d_eq, d_not, d_var, d_lit, d_cel, d_leq, d_fn, d_and, d_iff, IE.den, LE.den, AL.den, lenV, true_and, and_true, pcnumbers_39, pcnumbers_36, pcnumbers_33, pcnumbers_14, pcnumbers_6, pcnumbers_4, pcnumbers_2, pcnumbers_1, pcnumbers_0, hF, pb2, pi1, pi3] at hp
  obtain ⟨p1, p2, p3, p4, p5, p6, p7, p8, p9, p10, p11, p12, p13, p14, p15, p16, p17, p18, p19, p20, p21, p22, p23, p24, p25, p26, p27, p28, p29, p30, p31, p32, p33, p34, p35, p36, p37, p38, p39⟩ := hp
  exfalso
  all_goals
    obtain ⟨w1, w2, w3, w4⟩ := prod_in (n := ρ.i .i64 1) (s := ρ.i .i64 3) (by omega) (by omega) (by omega) (by omega)
    by_cases c : 0 ≤ ρ.i .i64 4 ∧ ρ.i .i64 4 ≤ ρ.i .i64 1 - 1 ∧ 0 ≤ ρ.i .i64 5 ∧ ρ.i .i64 5 ≤ ρ.i .i64 3 - 1
    · obtain ⟨d1, d2, d3, d4, d5⟩ := site_at (n := ρ.i .i64 1) (s := ρ.i .i64 3) (a := ρ.i .i64 4) (b := ρ.i .i64 5) (by omega) (by omega) (by omega) (by omega) c.1 c.2.1 c.2.2.1 c.2.2.2
      first
        | omega
        | (exfalso; first | omega | contradiction)
    · first
        | omega
        | (exfalso; omega)
theorem vcnumbers_15 : VD TTnumbers (st0 cNumbers) wnumbers_15 := by
  intro ρ kn hp
  have hF : ρ.z.F = sit.Φ := kn.F
  simp only [h_nil, h_cons, d_le, d_eq, d_not, d_var, d_lit, d_cel, d_leq, d_fn, d_and, d_iff, IE.den, LE.den, AL.den, lenV, true_and, and_true, pcnumbers_36, pcnumbers_33, pcnumbers_14, pcnumbers_6, pcnumbers_4, pcnumbers_2, pcnumbers_1, pcnumbers_0, hF, pb2, pi1, pi3] at hp
  obtain ⟨p1, p2, p3, p4, p5, p6, p7, p8, p9, p10, p11, p12, p13, p14, p15, p16, p17, p18, p19, p20, p21, p22, p23, p24, p25, p26, p27, p28, p29, p30, p31, p32, p33, p34, p35, p36, p37, p38⟩ := hp
  exfalso
  all_goals
    obtain ⟨w1, w2, w3, w4⟩ := prod_in (n := ρ.i .i64 1) (s := ρ.i .i64 3) (by omega) (by omega) (by omega) (by omega)
    by_cases c : 0 ≤ ρ.i .i64 4 ∧ ρ.i .i64 4 ≤ ρ.i .i64 1 - 1 ∧ 0 ≤ ρ.i .i64 5 ∧ ρ.i .i64 5 ≤ ρ.i .i64 3 - 1
    · obtain ⟨d1, d2, d3, d4, d5⟩ := site_at (n := ρ.i .i64 1) (s := ρ.i .i64 3) (a := ρ.i .i64 4) (b := ρ.i .i64 5) (by omega) (by omega) (by omega) (by omega) c.1 c.2.1 c.2.2.1 c.2.2.2
      first
        | omega
        | (exfalso; first | omega | contradiction)
    · first
        | omega
        | (exfalso; omega)
theorem vcnumbers_16 : VD TTnumbers (st0 cNumbers) wnumbers_16 := by
  intro ρ kn hp
  have hF : ρ.z.F = sit.Φ := kn.F
  simp only [h_nil, h_cons, d_le, d_eq, d_not, d_var, d_lit, d_cel, d_leq, d_fn, d_and, d_iff, IE.den, LE.den, AL.den, lenV, true_and, and_true, pcnumbers_33, pcnumbers_14, pcnumbers_6, pcnumbers_4, pcnumbers_2, pcnumbers_1, pcnumbers_0, hF, pb2, pi1, pi3] at hp
  obtain ⟨p1, p2, p3, p4, p5, p6, p7, p8, p9, p10, p11, p12, p13, p14, p15, p16, p17, p18, p19, p20, p21, p22, p23, p24, p25, p26, p27, p28, p29, p30, p31, p32, p33, p34, p35, p36, p37⟩ := hp
  exfalso
  all_goals
    obtain ⟨w1, w2, w3, w4⟩ := prod_in (n := ρ.i .i64 1) (s := ρ.i .i64 3) (by omega) (by omega) (by omega) (by omega)
    by_cases c : 0 ≤ ρ.i .i64 4 ∧ ρ.i .i64 4 ≤ ρ.i .i64 1 - 1 ∧ 0 ≤ ρ.i .i64 5 ∧ ρ.i .i64 5 ≤ ρ.i .i64 3 - 1
    · obtain ⟨d1, d2, d3, d4, d5⟩ := site_at (n := ρ.i .i64 1) (s := ρ.i .i64 3) (a := ρ.i .i64 4) (b := ρ.i .i64 5) (by omega) (by omega) (by omega) (by omega) c.1 c.2.1 c.2.2.1 c.2.2.2
      first
        | omega
        | (exfalso; first | omega | contradiction)
    · first
        | omega
        | (exfalso; omega)
theorem vcnumbers_17 : VD TTnumbers (st0 cNumbers) wnumbers_17 := by
  intro ρ kn hp
  have hF : ρ.z.F = sit.Φ := kn.F
  simp only [h_nil, h_cons, d_le, d_eq, d_not, d_var, d_lit, d_cel, d_leq, d_fn, d_and, d_iff, IE.den, LE.den, AL.den, lenV, true_and, and_true, pcnumbers_31, pcnumbers_20, pcnumbers_15, pcnumbers_6, pcnumbers_4, pcnumbers_2, pcnumbers_1, pcnumbers_0, hF, pb2, pi1, pi3] at hp
  obtain ⟨p1, p2, p3, p4, p5, p6, p7, p8, p9, p10, p11, p12, p13, p14, p15, p16, p17, p18, p19, p20, p21, p22, p23, p24, p25, p26, p27, p28, p29, p30, p31, p32⟩ := hp
  exfalso
  all_goals
    obtain ⟨w1, w2, w3, w4⟩ := prod_in (n := ρ.i .i64 1) (s := ρ.i .i64 3) (by omega) (by omega) (by omega) (by omega)
    by_cases c : 0 ≤ ρ.i .i64 4 ∧ ρ.i .i64 4 ≤ ρ.i .i64 1 - 1 ∧ 0 ≤ ρ.i .i64 5 ∧ ρ.i .i64 5 ≤ ρ.i .i64 3 - 1
    · obtain ⟨d1, d2, d3, d4, d5⟩ := site_at (n := ρ.i .i64 1) (s := ρ.i .i64 3) (a := ρ.i .i64 4) (b := ρ.i .i64 5) (by omega) (by omega) (by omega) (by omega) c.1 c.2.1 c.2.2.1 c.2.2.2
      first
        | omega
        | (exfalso; first | omega | contradiction)
    · first
        | omega
        | (exfalso; omega)
theorem vcnumbers_18 : VD TTnumbers (st0 cNumbers) wnumbers_18 := by
  intro ρ kn hp
  exact all_nil
theorem vcnumbers_19 : VD TTnumbers (st0 cNumbers) wnumbers_19 := by
  intro ρ kn hp
  exact all_nil
theorem vcnumbers_20 : VD TTnumbers (st0 cNumbers) wnumbers_20 := by
  intro ρ kn hp
  have hF : ρ.z.F = sit.Φ := kn.F
  simp only [h_nil, h_cons, d_le, d_eq, d_not, d_var, d_lit, d_cel, d_leq, d_fn, d_and, d_iff, IE.den, LE.den, AL.den, lenV, true_and, and_true, pcnumbers_32, pcnumbers_20, pcnumbers_15, pcnumbers_6, pcnumbers_4, pcnumbers_2, pcnumbers_1, pcnumbers_0, hF, pb2, pi1, pi3] at hp
  obtain ⟨p1, p2, p3, p4, p5, p6, p7, p8, p9, p10, p11, p12, p13, p14, p15, p16, p17, p18, p19, p20, p21, p22, p23, p24, p25, p26, p27, p28, p29, p30, p31, p32⟩ := hp
  exfalso
  all_goals
    obtain ⟨w1, w2, w3, w4⟩ := prod_in (n := ρ.i .i64 1) (s := ρ.i .i64 3) (by omega) (by omega) (by omega) (by omega)
    by_cases c : 0 ≤ ρ.i .i64 4 ∧ ρ.i .i64 4 ≤ ρ.i .i64 1 - 1 ∧ 0 ≤ ρ.i .i64 5 ∧ ρ.i .i64 5 ≤ ρ.i .i64 3 - 1
    · obtain ⟨d1, d2, d3, d4, d5⟩ := site_at (n := ρ.i .i64 1) (s := ρ.i .i64 3) (a := ρ.i .i64 4) (b := ρ.i .i64 5) (by omega) (by omega) (by omega) (by omega) c.1 c.2.1 c.2.2.1 c.2.2.2
      first
        | omega
        | (exfalso; first | omega | contradiction)
    · first
        | omega
        | (exfalso; omega)
theorem vcnumbers_21 : VD TTnumbers (st0 cNumbers) wnumbers_21 := by
  intro ρ kn hp
  exact all_nil
theorem vcnumbers_22 : VD TTnumbers (st0 cNumbers) wnumbers_22 := by
  intro ρ kn hp
  have hF : ρ.z.F = sit.Φ := kn.F
  simp only [h_nil, h_cons, d_le, d_eq, d_not, d_var, d_lit, d_cel, d_leq, d_fn, d_and, d_iff, IE.den, LE.den, AL.den, lenV, true_and, and_true, pcnumbers_25, pcnumbers_16, pcnumbers_9, pcnumbers_4, pcnumbers_2, pcnumbers_1, pcnumbers_0, hF, pb2, pi1, pi3] at hp
  obtain ⟨p1, p2, p3, p4, p5, p6, p7, p8, p9, p10, p11, p12, p13, p14, p15, p16, p17, p18, p19, p20, p21, p22, p23, p24, p25, p26, p27, p28, p29, p30, p31⟩ := hp
  exfalso
  all_goals
    obtain ⟨w1, w2, w3, w4⟩ := prod_in (n := ρ.i .i64 1) (s := ρ.i .i64 3) (by omega) (by omega) (by omega) (by omega)
    by_cases c : 0 ≤ ρ.i .i64 4 ∧ ρ.i .i64 4 ≤ ρ.i .i64 1 - 1 ∧ 0 ≤ ρ.i .i64 5 ∧ ρ.i .i64 5 ≤ ρ.i .i64 3 - 1
    · obtain ⟨d1, d2, d3, d4, d5⟩ := site_at (n := ρ.i .i64 1) (s := ρ.i .i64 3) (a := ρ.i .i64 4) (b := ρ.i .i64 5) (by omega) (by omega) (by omega) (by omega) c.1 c.2.1 c.2.2.1 c.2.2.2
      first
        | omega
        | (exfalso; first | omega | contradiction)
    · first
        | omega
        | (exfalso; omega)
theorem vcnumbers_23 : VD TTnumbers (st0 cNumbers) wnumbers_23 := by
  intro ρ kn hp
  exact all_nil
theorem vcnumbers_24 : VD TTnumbers (st0 cNumbers) wnumbers_24 := by
  intro ρ kn hp
  exact all_nil
theorem vcnumbers_25 : VD TTnumbers (st0 cNumbers) wnumbers_25 := by
  intro ρ kn hp
  have hF : ρ.z.F = sit.Φ := kn.F
  simp only [h_nil, h_cons, d_le, d_eq, d_not, d_var, d_lit, d_cel, d_leq, d_fn, d_and, d_iff, IE.den, LE.den, AL.den, lenV, true_and, and_true, pcnumbers_26, pcnumbers_16, pcnumbers_9, pcnumbers_4, pcnumbers_2, pcnumbers_1, pcnumbers_0, hF, pb2, pi1, pi3] at hp
  obtain ⟨p1, p2, p3, p4, p5, p6, p7, p8, p9, p10, p11, p12, p13, p14, p15, p16, p17, p18, p19, p20, p21, p22, p23, p24, p25, p26, p27, p28, p29, p30, p31⟩ := hp
  exfalso
  all_goals
    obtain ⟨w1, w2, w3, w4⟩ := prod_in (n := ρ.i .i64 1) (s := ρ.i .i64 3) (by omega) (by omega) (by omega) (by omega)
    by_cases c : 0 ≤ ρ.i .i64 4 ∧ ρ.i .i64 4 ≤ ρ.i .i64 1 - 1 ∧ 0 ≤ ρ.i .i64 5 ∧ ρ.i .i64 5 ≤ ρ.i .i64 3 - 1
    · obtain ⟨d1, d2, d3, d4, d5⟩ := site_at (n := ρ.i .i64 1) (s := ρ.i .i64 3) (a := ρ.i .i64 4) (b := ρ.i .i64 5) (by omega) (by omega) (by omega) (by omega) c.1 c.2.1 c.2.2.1 c.2.2.2
      first
        | omega
        | (exfalso; first | omega | contradiction)
    · first
        | omega
        | (exfalso; omega)
theorem vcnumbers_26 : VD TTnumbers (st0 cNumbers) wnumbers_26 := by
  intro ρ kn hp
  exact all_nil
theorem vcnumbers_27 : VD TTnumbers (st0 cNumbers) wnumbers_27 := by
  intro ρ kn hp
  have hF : ρ.z.F = sit.Φ := kn.F
  simp only [h_nil, h_cons, d_le, d_eq, d_not, d_var, d_lit, d_cel, d_leq, d_fn, d_and, d_iff, IE.den, LE.den, AL.den, lenV, true_and, and_true, pcnumbers_27, pcnumbers_17, pcnumbers_10, pcnumbers_5, pcnumbers_2, pcnumbers_1, pcnumbers_0, hF, pb2, pi1, pi3] at hp
  obtain ⟨p1, p2, p3, p4, p5, p6, p7, p8, p9, p10, p11, p12, p13, p14, p15, p16, p17, p18, p19, p20, p21, p22, p23, p24, p25, p26, p27, p28, p29, p30, p31⟩ := hp
  exfalso
  all_goals
    obtain ⟨w1, w2, w3, w4⟩ := prod_in (n := ρ.i .i64 1) (s := ρ.i .i64 3) (by omega) (by omega) (by omega) (by omega)
    by_cases c : 0 ≤ ρ.i .i64 4 ∧ ρ.i .i64 4 ≤ ρ.i .i64 1 - 1 ∧ 0 ≤ ρ.i .i64 5 ∧ ρ.i .i64 5 ≤ ρ.i .i64 3 - 1
    · obtain ⟨d1, d2, d3, d4, d5⟩ := site_at (n := ρ.i .i64 1) (s := ρ.i .i64 3) (a := ρ.i .i64 4) (b := ρ.i .i64 5) (by omega) (by omega) (by omega) (by omega) c.1 c.2.1 c.2.2.1 c.2.2.2
      first
        | omega
        | (exfalso; first | omega | contradiction)
    · first
        | omega
        | (exfalso; omega)
theorem vcnumbers_28 : VD TTnumbers (st0 cNumbers) wnumbers_28 := by
  intro ρ kn hp
  exact all_nil
theorem vcnumbers_29 : VD TTnumbers (st0 cNumbers) wnumbers_29 := by
  intro ρ kn hp
  exact all_nil
theorem vcnumbers_30 : VD TTnumbers (st0 cNumbers) wnumbers_30 := by
  intro ρ kn hp
  have hF : ρ.z.F = sit.Φ := kn.F
  simp only [h_nil, h_cons, d_le, d_eq, d_not, d_var, d_lit, d_cel, d_leq, d_fn, d_and, d_iff, IE.den, LE.den, AL.den, lenV, true_and, and_true, pcnumbers_28, pcnumbers_17, pcnumbers_10, pcnumbers_5, pcnumbers_2, pcnumbers_1, pcnumbers_0, hF, pb2, pi1, pi3] at hp
  obtain ⟨p1, p2, p3, p4, p5, p6, p7, p8, p9, p10, p11, p12, p13, p14, p15, p16, p17, p18, p19, p20, p21, p22, p23, p24, p25, p26, p27, p28, p29, p30, p31⟩ := hp
  exfalso
  all_goals
    obtain ⟨w1, w2, w3, w4⟩ := prod_in (n := ρ.i .i64 1) (s := ρ.i .i64 3) (by omega) (by omega) (by omega) (by omega)
    by_cases c : 0 ≤ ρ.i .i64 4 ∧ ρ.i .i64 4 ≤ ρ.i .i64 1 - 1 ∧ 0 ≤ ρ.i .i64 5 ∧ ρ.i .i64 5 ≤ ρ.i .i64 3 - 1
    · obtain ⟨d1, d2, d3, d4, d5⟩ := site_at (n := ρ.i .i64 1) (s := ρ.i .i64 3) (a := ρ.i .i64 4) (b := ρ.i .i64 5) (by omega) (by omega) (by omega) (by omega) c.1 c.2.1 c.2.2.1 c.2.2.2
      first
        | omega
        | (exfalso; first | omega | contradiction)
    · first
        | omega
        | (exfalso; omega)
theorem vcnumbers_31 : VD TTnumbers (st0 cNumbers) wnumbers_31 := by
  intro ρ kn hp
  exact all_nil
theorem vcnumbers_32 : VD TTnumbers (st0 cNumbers) wnumbers_32 := by
  intro ρ kn hp
  have hF : ρ.z.F = sit.Φ := kn.F
  simp only [h_nil, h_cons, d_le, d_eq, d_not, d_var, d_lit, d_cel, d_leq, d_fn, d_and, d_iff, IE.den, LE.den, AL.den, lenV, true_and, and_true, pcnumbers_29, pcnumbers_18, pcnumbers_11, pcnumbers_5, pcnumbers_2, pcnumbers_1, pcnumbers_0, hF, pb2, pi1, pi3] at hp
  obtain ⟨p1, p2, p3, p4, p5, p6, p7, p8, p9, p10, p11, p12, p13, p14, p15, p16, p17, p18, p19, p20, p21, p22, p23, p24, p25, p26, p27, p28, p29, p30, p31⟩ := hp
  exfalso
  all_goals
    obtain ⟨w1, w2, w3, w4⟩ := prod_in (n := ρ.i .i64 1) (s := ρ.i .i64 3) (by omega) (by omega) (by omega) (by omega)
    by_cases c : 0 ≤ ρ.i .i64 4 ∧ ρ.i .i64 4 ≤ ρ.i .i64 1 - 1 ∧ 0 ≤ ρ.i .i64 5 ∧ ρ.i .i64 5 ≤ ρ.i .i64 3 - 1
    · obtain ⟨d1, d2, d3, d4, d5⟩ := site_at (n := ρ.i .i64 1) (s := ρ.i .i64 3) (a := ρ.i .i64 4) (b := ρ.i .i64 5) (by omega) (by omega) (by omega) (by omega) c.1 c.2.1 c.2.2.1 c.2.2.2
      first
        | omega
        | (exfalso; first | omega | contradiction)
    · first
        | omega
        | (exfalso; omega)
theorem vcnumbers_33 : VD TTnumbers (st0 cNumbers) wnumbers_33 := by
  intro ρ kn hp
  exact all_nil
theorem vcnumbers_34 : VD TTnumbers (st0 cNumbers) wnumbers_34 := by
  intro ρ kn hp
  exact all_nil
theorem vcnumbers_35 : VD TTnumbers (st0 cNumbers) wnumbers_35 := by
  intro ρ kn hp
  have hF : ρ.z.F = sit.Φ := kn.F
  simp only [h_nil, h_cons, d_le, d_eq, d_not, d_var, d_lit, d_cel, d_leq, d_fn, d_and, d_iff, IE.den, LE.den, AL.den, lenV, true_and, and_true, pcnumbers_30, pcnumbers_18, pcnumbers_11, pcnumbers_5, pcnumbers_2, pcnumbers_1, pcnumbers_0, hF, pb2, pi1, pi3] at hp
  obtain ⟨p1, p2, p3, p4, p5, p6, p7, p8, p9, p10, p11, p12, p13, p14, p15, p16, p17, p18, p19, p20, p21, p22, p23, p24, p25, p26, p27, p28, p29, p30, p31⟩ := hp
  exfalso
  all_goals
    obtain ⟨w1, w2, w3, w4⟩ := prod_in (n := ρ.i .i64 1) (s := ρ.i .i64 3) (by omega) (by omega) (by omega) (by omega)
    by_cases c : 0 ≤ ρ.i .i64 4 ∧ ρ.i .i64 4 ≤ ρ.i .i64 1 - 1 ∧ 0 ≤ ρ.i .i64 5 ∧ ρ.i .i64 5 ≤ ρ.i .i64 3 - 1
    · obtain ⟨d1, d2, d3, d4, d5⟩ := site_at (n := ρ.i .i64 1) (s := ρ.i .i64 3) (a := ρ.i .i64 4) (b := ρ.i .i64 5) (by omega) (by omega) (by omega) (by omega) c.1 c.2.1 c.2.2.1 c.2.2.2
      first
        | omega
        | (exfalso; first | omega | contradiction)
    · first
        | omega
        | (exfalso; omega)
theorem vcnumbers_36 : VD TTnumbers (st0 cNumbers) wnumbers_36 := by
  intro ρ kn hp
  exact all_nil
theorem vcnumbers_37 : VD TTnumbers (st0 cNumbers) wnumbers_37 := by
  intro ρ kn hp
  have hF : ρ.z.F = sit.Φ := kn.F
  simp only [h_nil, h_cons, d_le, d_eq, d_not, d_var, d_lit, d_cel, d_leq, d_fn, d_and, d_iff, IE.den, LE.den, AL.den, lenV, true_and, and_true, pcnumbers_21, pcnumbers_12, pcnumbers_7, pcnumbers_3, pcnumbers_1, pcnumbers_0, hF, pb2, pi1, pi3] at hp
  obtain ⟨p1, p2, p3, p4, p5, p6, p7, p8, p9, p10, p11, p12, p13, p14, p15, p16, p17, p18, p19, p20, p21, p22, p23, p24, p25, p26, p27, p28, p29, p30⟩ := hp
  exfalso
  all_goals
    obtain ⟨w1, w2, w3, w4⟩ := prod_in (n := ρ.i .i64 1) (s := ρ.i .i64 3) (by omega) (by omega) (by omega) (by omega)
    by_cases c : 0 ≤ ρ.i .i64 4 ∧ ρ.i .i64 4 ≤ ρ.i .i64 1 - 1 ∧ 0 ≤ ρ.i .i64 5 ∧ ρ.i .i64 5 ≤ ρ.i .i64 3 - 1
    · obtain ⟨d1, d2, d3, d4, d5⟩ := site_at (n := ρ.i .i64 1) (s := ρ.i .i64 3) (a := ρ.i .i64 4) (b := ρ.i .i64 5) (by omega) (by omega) (by omega) (by omega) c.1 c.2.1 c.2.2.1 c.2.2.2
      first
        | omega
        | (exfalso; first | omega | contradiction)
    · first
        | omega
        | (exfalso; omega)
theorem vcnumbers_38 : VD TTnumbers (st0 cNumbers) wnumbers_38 := by
  intro ρ kn hp
  exact all_nil
theorem vcnumbers_39 : VD TTnumbers (st0 cNumbers) wnumbers_39 := by
  intro ρ kn hp
  exact all_nil
theorem vcnumbers_40 : VD TTnumbers (st0 cNumbers) wnumbers_40 := by
  intro ρ kn hp
  have hF : ρ.z.F = sit.Φ := kn.F
  simp only [h_nil, h_cons, d_le, d_eq, d_not, d_var, d_lit, d_cel, d_leq, d_fn, d_and, d_iff, IE.den, LE.den, AL.den, lenV, true_and, and_true, pcnumbers_22, pcnumbers_12, pcnumbers_7, pcnumbers_3, pcnumbers_1, pcnumbers_0, hF, pb2, pi1, pi3] at hp
  obtain ⟨p1, p2, p3, p4, p5, p6, p7, p8, p9, p10, p11, p12, p13, p14, p15, p16, p17, p18, p19, p20, p21, p22, p23, p24, p25, p26, p27, p28, p29, p30⟩ := hp
  exfalso
  all_goals
    obtain ⟨w1, w2, w3, w4⟩ := prod_in (n := ρ.i .i64 1) (s := ρ.i .i64 3) (by omega) (by omega) (by omega) (by omega)
    by_cases c : 0 ≤ ρ.i .i64 4 ∧ ρ.i .i64 4 ≤ ρ.i .i64 1 - 1 ∧ 0 ≤ ρ.i .i64 5 ∧ ρ.i .i64 5 ≤ ρ.i .i64 3 - 1
    · obtain ⟨d1, d2, d3, d4, d5⟩ := site_at (n := ρ.i .i64 1) (s := ρ.i .i64 3) (a := ρ.i .i64 4) (b := ρ.i .i64 5) (by omega) (by omega) (by omega) (by omega) c.1 c.2.1 c.2.2.1 c.2.2.2
      first
        | omega
        | (exfalso; first | omega | contradiction)
    · first
        | omega
        | (exfalso; omega)
theorem vcnumbers_41 : VD TTnumbers (st0 cNumbers) wnumbers_41 := by
  intro ρ kn hp
  exact all_nil
theorem vcnumbers_42 : VD TTnumbers (st0 cNumbers) wnumbers_42 := by
  intro ρ kn hp
  have hF : ρ.z.F = sit.Φ := kn.F
  simp only [h_nil, h_cons, d_le, d_eq, d_not, d_var, d_lit, d_cel, d_leq, d_fn, d_and, d_iff, IE.den, LE.den, AL.den, lenV, true_and, and_true, pcnumbers_23, pcnumbers_13, pcnumbers_8, pcnumbers_3, pcnumbers_1, pcnumbers_0, hF, pb2, pi1, pi3] at hp
  obtain ⟨p1, p2, p3, p4, p5, p6, p7, p8, p9, p10, p11, p12, p13, p14, p15, p16, p17, p18, p19, p20, p21, p22, p23, p24, p25, p26, p27, p28, p29, p30⟩ := hp
  exfalso
  all_goals
    obtain ⟨w1, w2, w3, w4⟩ := prod_in (n := ρ.i .i64 1) (s := ρ.i .i64 3) (by omega) (by omega) (by omega) (by omega)
    by_cases c : 0 ≤ ρ.i .i64 4 ∧ ρ.i .i64 4 ≤ ρ.i .i64 1 - 1 ∧ 0 ≤ ρ.i .i64 5 ∧ ρ.i .i64 5 ≤ ρ.i .i64 3 - 1
    · obtain ⟨d1, d2, d3, d4, d5⟩ := site_at (n := ρ.i .i64 1) (s := ρ.i .i64 3) (a := ρ.i .i64 4) (b := ρ.i .i64 5) (by omega) (by omega) (by omega) (by omega) c.1 c.2.1 c.2.2.1 c.2.2.2
      first
        | omega
        | (exfalso; first | omega | contradiction)
    · first
        | omega
        | (exfalso; omega)
theorem vcnumbers_43 : VD TTnumbers (st0 cNumbers) wnumbers_43 := by
  intro ρ kn hp
  exact all_nil
theorem vcnumbers_44 : VD TTnumbers (st0 cNumbers) wnumbers_44 := by
  intro ρ kn hp
  exact all_nil
theorem vcnumbers_45 : VD TTnumbers (st0 cNumbers) wnumbers_45 := by
  intro ρ kn hp
  have hF : ρ.z.F = sit.Φ := kn.F
  simp only [h_nil, h_cons, d_le, d_eq, d_not, d_var, d_lit, d_cel, d_leq, d_fn, d_and, d_iff, IE.den, LE.den, AL.den, lenV, true_and, and_true, pcnumbers_24, pcnumbers_13, pcnumbers_8, pcnumbers_3, pcnumbers_1, pcnumbers_0, hF, pb2, pi1, pi3] at hp
  obtain ⟨p1, p2, p3, p4, p5, p6, p7, p8, p9, p10, p11, p12, p13, p14, p15, p16, p17, p18, p19, p20, p21, p22, p23, p24, p25, p26, p27, p28, p29, p30⟩ := hp
  exfalso
  all_goals
    obtain ⟨w1, w2, w3, w4⟩ := prod_in (n := ρ.i .i64 1) (s := ρ.i .i64 3) (by omega) (by omega) (by omega) (by omega)
    by_cases c : 0 ≤ ρ.i .i64 4 ∧ ρ.i .i64 4 ≤ ρ.i .i64 1 - 1 ∧ 0 ≤ ρ.i .i64 5 ∧ ρ.i .i64 5 ≤ ρ.i .i64 3 - 1
    · obtain ⟨d1, d2, d3, d4, d5⟩ := site_at (n := ρ.i .i64 1) (s := ρ.i .i64 3) (a := ρ.i .i64 4) (b := ρ.i .i64 5) (by omega) (by omega) (by omega) (by omega) c.1 c.2.1 c.2.2.1 c.2.2.2
      first
        | omega
        | (exfalso; first | omega | contradiction)
    · first
        | omega
        | (exfalso; omega)
theorem vcnumbers_46 : VD TTnumbers (st0 cNumbers) wnumbers_46 := by
  intro ρ kn hp
  exact all_nil
theorem vcnumbers_47 : VD TTnumbers (st0 cNumbers) wnumbers_47 := by
  intro ρ kn hp
  exact all_nil
theorem told_numbers : Sx.Told sit.Φ cNumbers := told_vw (cs := [cWorks, cChk1, cChk2, cShapeS]) (all_cons told_works (all_cons told_chk1 (all_cons told_chk2 (all_cons told_shapeS (all_nil))))) 8000 vwnumbers (by kernel_rfl) (by kernel_rfl) (by kernel_rfl) (post_nil rfl) (by kernel_rfl) (by kernel_rfl) (all_cons vcnumbers_0 (all_cons vcnumbers_1 (all_cons vcnumbers_2 (all_cons vcnumbers_3 (all_cons vcnumbers_4 (all_cons vcnumbers_5 (all_cons vcnumbers_6 (all_cons vcnumbers_7 (all_cons vcnumbers_8 (all_cons vcnumbers_9 (all_cons vcnumbers_10 (all_cons vcnumbers_11 (all_cons vcnumbers_12 (all_cons vcnumbers_13 (all_cons vcnumbers_14 (all_cons vcnumbers_15 (all_cons vcnumbers_16 (all_cons vcnumbers_17 (all_cons vcnumbers_18 (all_cons vcnumbers_19 (all_cons vcnumbers_20 (all_cons vcnumbers_21 (all_cons vcnumbers_22 (all_cons vcnumbers_23 (all_cons vcnumbers_24 (all_cons vcnumbers_25 (all_cons vcnumbers_26 (all_cons vcnumbers_27 (all_cons vcnumbers_28 (all_cons vcnumbers_29 (all_cons vcnumbers_30 (all_cons vcnumbers_31 (all_cons vcnumbers_32 (all_cons vcnumbers_33 (all_cons vcnumbers_34 (all_cons vcnumbers_35 (all_cons vcnumbers_36 (all_cons vcnumbers_37 (all_cons vcnumbers_38 (all_cons vcnumbers_39 (all_cons vcnumbers_40 (all_cons vcnumbers_41 (all_cons vcnumbers_42 (all_cons vcnumbers_43 (all_cons vcnumbers_44 (all_cons vcnumbers_45 (all_cons vcnumbers_46 (all_cons vcnumbers_47 (all_nil)))))))))))))))))))))))))))))))))))))))))))))))))
end Go.Proofs.YtdfgidogiacmnaaDoor.sit
