/- Layer wait: the law WaitGrants. No condition. -/
import Derived.Test.YteblnjgghbclpaaDoorWi
import Derived.Test.YteblnjgghbclpaaDoorWe
set_option linter.unusedVariables false
set_option linter.unusedSimpArgs false
set_option linter.deprecated false
namespace Go.Proofs.YteblnjgghbclpaaDoor.wt
open Go Go.Proofs.YteblnjgghbclpaaDoor.Sx
noncomputable section
abbrev TTgrants : Tab := T wt.Φ cGrants.roms [cWorks, cQueueP, cQueueR, cSame, cGrOk, cGrNo, cRGrOk, cRGrNo]
def pcgrants_0 : List BE := [(BE.lit true), (BE.le (IE.lit 2) (IE.len (LE.rom 0)))]
def pcgrants_1 : List BE := ((BE.le (IE.len (LE.rom 0)) (IE.lit 300)) :: pcgrants_0)
def wgrants_0 : VW := (VW.done ((BE.le (IE.lit 1) (IE.len (LE.fn 4 (AL.lst (LE.rom 0) (AL.int .i64 (IE.var .i64 1) AL.nil))))) :: (BE.le (IE.len (LE.fn 4 (AL.lst (LE.rom 0) (AL.int .i64 (IE.var .i64 1) AL.nil)))) (IE.lit 1001)) :: (BE.le (IE.lit 1) (IE.len (LE.fn 4 (AL.lst (LE.rom 0) (AL.int .i64 (IE.var .i64 1) AL.nil))))) :: (BE.le (IE.len (LE.fn 4 (AL.lst (LE.rom 0) (AL.int .i64 (IE.var .i64 1) AL.nil)))) (IE.lit 1001)) :: (BE.eq (IE.fn .i64 7 (AL.lst (LE.rom 0) (AL.int .i64 (IE.var .i64 1) AL.nil))) (IE.lit 0)) :: pcgrants_1) (some []))
def wgrants_1 : VW := (VW.done ((BE.not (BE.eq (IE.fn .i64 7 (AL.lst (LE.rom 0) (AL.int .i64 (IE.var .i64 1) AL.nil))) (IE.lit 0))) :: pcgrants_1) (some []))
def wgrants_2 : VW := (VW.done ((BE.not (BE.le (IE.len (LE.rom 0)) (IE.lit 300))) :: pcgrants_0) (some []))
def vwgrants : List VW := [wgrants_0, wgrants_1, wgrants_2]
end
theorem vcgrants_0 : VD TTgrants (st0 cGrants) wgrants_0 := by
  intro ρ kn hp
  exact all_nil
theorem vcgrants_1 : VD TTgrants (st0 cGrants) wgrants_1 := by
  intro ρ kn hp
  exact all_nil
theorem vcgrants_2 : VD TTgrants (st0 cGrants) wgrants_2 := by
  intro ρ kn hp
  exact all_nil
theorem told_grants : Sx.Told wt.Φ cGrants := told_vw (cs := [cWorks, cQueueP, cQueueR, cSame, cGrOk, cGrNo, cRGrOk, cRGrNo]) (all_cons told_works (all_cons told_queueP (all_cons told_queueR (all_cons told_same (all_cons told_grOk (all_cons told_grNo (all_cons told_rgrOk (all_cons told_rgrNo (all_nil))))))))) 20000 vwgrants (by kernel_rfl) (by kernel_rfl) (by kernel_rfl) (post_nil rfl) (by kernel_rfl) (by kernel_rfl) (all_cons vcgrants_0 (all_cons vcgrants_1 (all_cons vcgrants_2 (all_nil))))
noncomputable section
abbrev TTgrants1a : Tab := T wt.Φ cGrants1a.roms [cWorks, cQueueP, cQueueR, cSame]
def pcgrants1a_0 : List BE := [(BE.lit true), (BE.eq (IE.len (LE.rom 0)) (IE.lit 1))]
def wgrants1a_0 : VW := (VW.done ((BE.fn 4 (AL.lst (LE.rom 0) AL.nil)) :: pcgrants1a_0) (some []))
def wgrants1a_1 : VW := (VW.done ((BE.not (BE.fn 4 (AL.lst (LE.rom 0) AL.nil))) :: pcgrants1a_0) (some []))
def vwgrants1a : List VW := [wgrants1a_0, wgrants1a_1]
end
theorem vcgrants1a_0 : VD TTgrants1a (st0 cGrants1a) wgrants1a_0 := by
  intro ρ kn hp
  exact all_nil
theorem vcgrants1a_1 : VD TTgrants1a (st0 cGrants1a) wgrants1a_1 := by
  intro ρ kn hp
  exact all_nil
theorem told_grants1a : Sx.Told wt.Φ cGrants1a := told_vw (cs := [cWorks, cQueueP, cQueueR, cSame]) (all_cons told_works (all_cons told_queueP (all_cons told_queueR (all_cons told_same (all_nil))))) 20000 vwgrants1a (by kernel_rfl) (by kernel_rfl) (by kernel_rfl) (post_nil rfl) (by kernel_rfl) (by kernel_rfl) (all_cons vcgrants1a_0 (all_cons vcgrants1a_1 (all_nil)))
noncomputable section
abbrev TTgrants1b : Tab := T wt.Φ cGrants1b.roms [cWorks, cQueueP, cQueueR, cSame]
def pcgrants1b_0 : List BE := [(BE.lit true), (BE.eq (IE.len (LE.rom 0)) (IE.lit 1)), (BE.le (IE.lit 1) (IE.var .i64 1))]
def wgrants1b_0 : VW := (VW.done ((BE.fn 4 (AL.lst (LE.rom 0) AL.nil)) :: pcgrants1b_0) (some []))
def wgrants1b_1 : VW := (VW.done ((BE.not (BE.fn 4 (AL.lst (LE.rom 0) AL.nil))) :: pcgrants1b_0) (some []))
def vwgrants1b : List VW := [wgrants1b_0, wgrants1b_1]
end
theorem vcgrants1b_0 : VD TTgrants1b (st0 cGrants1b) wgrants1b_0 := by
  intro ρ kn hp
  exact all_nil
theorem vcgrants1b_1 : VD TTgrants1b (st0 cGrants1b) wgrants1b_1 := by
  intro ρ kn hp
  exact all_nil
theorem told_grants1b : Sx.Told wt.Φ cGrants1b := told_vw (cs := [cWorks, cQueueP, cQueueR, cSame]) (all_cons told_works (all_cons told_queueP (all_cons told_queueR (all_cons told_same (all_nil))))) 20000 vwgrants1b (by kernel_rfl) (by kernel_rfl) (by kernel_rfl) (post_nil rfl) (by kernel_rfl) (by kernel_rfl) (all_cons vcgrants1b_0 (all_cons vcgrants1b_1 (all_nil)))
noncomputable section
abbrev TTgrants1c : Tab := T wt.Φ cGrants1c.roms [cWorks, cQueueP, cQueueR, cSame]
def pcgrants1c_0 : List BE := [(BE.lit true), (BE.eq (IE.len (LE.rom 0)) (IE.lit 1)), (BE.le (IE.var .i64 1) (IE.lit (-1)))]
def wgrants1c_0 : VW := (VW.done ((BE.fn 4 (AL.lst (LE.rom 0) AL.nil)) :: pcgrants1c_0) (some []))
def wgrants1c_1 : VW := (VW.done ((BE.not (BE.fn 4 (AL.lst (LE.rom 0) AL.nil))) :: pcgrants1c_0) (some []))
def vwgrants1c : List VW := [wgrants1c_0, wgrants1c_1]
end
theorem vcgrants1c_0 : VD TTgrants1c (st0 cGrants1c) wgrants1c_0 := by
  intro ρ kn hp
  exact all_nil
theorem vcgrants1c_1 : VD TTgrants1c (st0 cGrants1c) wgrants1c_1 := by
  intro ρ kn hp
  exact all_nil
theorem told_grants1c : Sx.Told wt.Φ cGrants1c := told_vw (cs := [cWorks, cQueueP, cQueueR, cSame]) (all_cons told_works (all_cons told_queueP (all_cons told_queueR (all_cons told_same (all_nil))))) 20000 vwgrants1c (by kernel_rfl) (by kernel_rfl) (by kernel_rfl) (post_nil rfl) (by kernel_rfl) (by kernel_rfl) (all_cons vcgrants1c_0 (all_cons vcgrants1c_1 (all_nil)))
noncomputable section
abbrev TTgrantsz : Tab := T wt.Φ cGrants0.roms [cWorks, cQueueP, cQueueR, cSame]
def pcgrantsz_0 : List BE := [(BE.lit true)]
def pcgrantsz_1 : List BE := ((BE.le (IE.lit 0) (IE.var .i64 1)) :: pcgrantsz_0)
def pcgrantsz_2 : List BE := ((BE.not (BE.le (IE.lit 0) (IE.var .i64 1))) :: pcgrantsz_0)
def wgrantsz_0 : VW := (VW.done ((BE.fn 4 (AL.lst (LE.take (LE.rom 0) (IE.lit 0)) AL.nil)) :: pcgrantsz_1) (some []))
def wgrantsz_1 : VW := (VW.done ((BE.not (BE.fn 4 (AL.lst (LE.take (LE.rom 0) (IE.lit 0)) AL.nil))) :: pcgrantsz_1) (some [(G.b (BE.lit true) (BE.lit false))]))
def wgrantsz_2 : VW := (VW.done ((BE.fn 4 (AL.lst (LE.take (LE.rom 0) (IE.lit 0)) AL.nil)) :: pcgrantsz_2) (some []))
def wgrantsz_3 : VW := (VW.done ((BE.not (BE.fn 4 (AL.lst (LE.take (LE.rom 0) (IE.lit 0)) AL.nil))) :: pcgrantsz_2) (some [(G.b (BE.lit true) (BE.lit false))]))
def vwgrantsz : List VW := [wgrantsz_0, wgrantsz_1, wgrantsz_2, wgrantsz_3]
end
theorem vcgrantsz_0 : VD TTgrantsz (st0 cGrants0) wgrantsz_0 := by
  intro ρ kn hp
  exact all_nil
theorem vcgrantsz_1 : VD TTgrantsz (st0 cGrants0) wgrantsz_1 := by
  intro ρ kn hp
  have hF : ρ.z.F = wt.Φ := kn.F
  simp only [h_nil, h_cons, d_le, d_eq, d_not, d_var, d_lit, d_cel, d_leq, d_fn, d_and, d_iff, IE.den, LE.den, AL.den, lenV, true_and, and_true, pcgrantsz_1, pcgrantsz_0, hF, pi2, pi5, pi6, pi7, pb1, pb2, pb4, pl4, pl6, pl8] at hp
  obtain ⟨p1, p2⟩ := hp
  exfalso
  have t0 : (ρ.z.rl 0).take (0 : Int).toNat = [] := rfl
  simp only [t0] at *
  have q0 : queueL ([] : LV) = true := rfl
  first | omega | exact absurd q0 (by assumption)
theorem vcgrantsz_2 : VD TTgrantsz (st0 cGrants0) wgrantsz_2 := by
  intro ρ kn hp
  exact all_nil
theorem vcgrantsz_3 : VD TTgrantsz (st0 cGrants0) wgrantsz_3 := by
  intro ρ kn hp
  have hF : ρ.z.F = wt.Φ := kn.F
  simp only [h_nil, h_cons, d_le, d_eq, d_not, d_var, d_lit, d_cel, d_leq, d_fn, d_and, d_iff, IE.den, LE.den, AL.den, lenV, true_and, and_true, pcgrantsz_2, pcgrantsz_0, hF, pi2, pi5, pi6, pi7, pb1, pb2, pb4, pl4, pl6, pl8] at hp
  obtain ⟨p1, p2⟩ := hp
  exfalso
  have t0 : (ρ.z.rl 0).take (0 : Int).toNat = [] := rfl
  simp only [t0] at *
  have q0 : queueL ([] : LV) = true := rfl
  first | omega | exact absurd q0 (by assumption)
theorem told_grantsz : Sx.Told wt.Φ cGrants0 := told_vw (cs := [cWorks, cQueueP, cQueueR, cSame]) (all_cons told_works (all_cons told_queueP (all_cons told_queueR (all_cons told_same (all_nil))))) 20000 vwgrantsz (by kernel_rfl) (by kernel_rfl) (by kernel_rfl) (post_nil rfl) (by kernel_rfl) (by kernel_rfl) (all_cons vcgrantsz_0 (all_cons vcgrantsz_1 (all_cons vcgrantsz_2 (all_cons vcgrantsz_3 (all_nil)))))
end Go.Proofs.YteblnjgghbclpaaDoor.wt
