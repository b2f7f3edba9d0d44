/- Layer wait: the law WaitAdds. No condition. -/
import Derived.Test.YteblnjgghbclpaaDoorWg
import Derived.Test.YteblnjgghbclpaaDoorWe
set_option linter.unusedVariables false
set_option linter.unusedSimpArgs false
set_option linter.deprecated false
namespace Go.Proofs.YteblnjgghbclpaaDoor.wt
open Go Go.Proofs.YteblnjgghbclpaaDoor.Sx
noncomputable section
abbrev TTadds : Tab := T wt.Φ cAdds.roms [cWorks, cQueueP, cQueueR, cMayP, cMayR, cRFin, cRFout, cFindIn, cFindOut, cFindNo, cSame, cAddOk, cAddNo, cRAddOk, cRAddNo, cDropOk, cDropNo, cRDropOk, cRDropNo]
def pcadds_0 : List BE := [(BE.lit true), (BE.le (IE.lit 2) (IE.len (LE.rom 0)))]
def pcadds_1 : List BE := ((BE.le (IE.len (LE.rom 0)) (IE.lit 300)) :: pcadds_0)
def pcadds_2 : List BE := ((BE.not (BE.eq (IE.fn .i64 5 (AL.lst (LE.rom 0) (AL.int .i64 (IE.var .i64 1) (AL.int .i64 (IE.var .i64 2) (AL.int .i64 (IE.var .i64 3) (AL.int .i64 (IE.var .i64 4) (AL.int .i64 (IE.var .i64 5) AL.nil))))))) (IE.lit 0))) :: pcadds_1)
def pcadds_3 : List BE := ((BE.not (BE.eq (IE.fn .i64 6 (AL.lst (LE.rom 0) (AL.int .i64 (IE.var .i64 6) AL.nil))) (IE.lit 0))) :: pcadds_2)
def pcadds_4 : List BE := ((BE.le (IE.lit 1) (IE.len (LE.fn 6 (AL.lst (LE.rom 0) (AL.int .i64 (IE.var .i64 1) (AL.int .i64 (IE.var .i64 2) (AL.int .i64 (IE.var .i64 3) (AL.int .i64 (IE.var .i64 4) (AL.int .i64 (IE.var .i64 5) AL.nil))))))))) :: (BE.le (IE.len (LE.fn 6 (AL.lst (LE.rom 0) (AL.int .i64 (IE.var .i64 1) (AL.int .i64 (IE.var .i64 2) (AL.int .i64 (IE.var .i64 3) (AL.int .i64 (IE.var .i64 4) (AL.int .i64 (IE.var .i64 5) AL.nil)))))))) (IE.lit 1001)) :: (BE.eq (IE.fn .i64 5 (AL.lst (LE.rom 0) (AL.int .i64 (IE.var .i64 1) (AL.int .i64 (IE.var .i64 2) (AL.int .i64 (IE.var .i64 3) (AL.int .i64 (IE.var .i64 4) (AL.int .i64 (IE.var .i64 5) AL.nil))))))) (IE.lit 0)) :: pcadds_1)
def pcadds_5 : List BE := ((BE.fn 4 (AL.lst (LE.rom 0) AL.nil)) :: pcadds_3)
def pcadds_6 : List BE := ((BE.not (BE.fn 4 (AL.lst (LE.rom 0) AL.nil))) :: pcadds_3)
def pcadds_7 : List BE := ((BE.not (BE.eq (IE.fn .i64 6 (AL.lst (LE.rom 0) (AL.int .i64 (IE.var .i64 6) AL.nil))) (IE.lit 0))) :: pcadds_4)
def pcadds_8 : List BE := ((BE.le (IE.lit 1) (IE.len (LE.fn 8 (AL.lst (LE.rom 0) (AL.int .i64 (IE.var .i64 6) AL.nil))))) :: (BE.le (IE.len (LE.fn 8 (AL.lst (LE.rom 0) (AL.int .i64 (IE.var .i64 6) AL.nil)))) (IE.lit 1001)) :: (BE.eq (IE.fn .i64 6 (AL.lst (LE.rom 0) (AL.int .i64 (IE.var .i64 6) AL.nil))) (IE.lit 0)) :: pcadds_2)
def pcadds_9 : List BE := ((BE.fn 4 (AL.lst (LE.rom 0) AL.nil)) :: pcadds_7)
def pcadds_10 : List BE := ((BE.fn 4 (AL.lst (LE.rom 0) AL.nil)) :: pcadds_8)
def pcadds_11 : List BE := ((BE.le (IE.lit 1) (IE.len (LE.fn 8 (AL.lst (LE.rom 0) (AL.int .i64 (IE.var .i64 6) AL.nil))))) :: (BE.le (IE.len (LE.fn 8 (AL.lst (LE.rom 0) (AL.int .i64 (IE.var .i64 6) AL.nil)))) (IE.lit 1001)) :: (BE.eq (IE.fn .i64 6 (AL.lst (LE.rom 0) (AL.int .i64 (IE.var .i64 6) AL.nil))) (IE.lit 0)) :: pcadds_4)
def pcadds_12 : List BE := ((BE.fn 4 (AL.lst (LE.rom 0) AL.nil)) :: pcadds_11)
def pcadds_13 : List BE := ((BE.le (IE.lit 1) (IE.len (LE.fn 6 (AL.lst (LE.rom 0) (AL.int .i64 (IE.var .i64 1) (AL.int .i64 (IE.var .i64 2) (AL.int .i64 (IE.var .i64 3) (AL.int .i64 (IE.var .i64 4) (AL.int .i64 (IE.var .i64 5) AL.nil))))))))) :: (BE.le (IE.len (LE.fn 6 (AL.lst (LE.rom 0) (AL.int .i64 (IE.var .i64 1) (AL.int .i64 (IE.var .i64 2) (AL.int .i64 (IE.var .i64 3) (AL.int .i64 (IE.var .i64 4) (AL.int .i64 (IE.var .i64 5) AL.nil)))))))) (IE.lit 1001)) :: (BE.not (BE.fn 4 (AL.lst (LE.rom 0) AL.nil))) :: pcadds_7)
def pcadds_14 : List BE := ((BE.le (IE.lit 1) (IE.len (LE.fn 8 (AL.lst (LE.rom 0) (AL.int .i64 (IE.var .i64 6) AL.nil))))) :: (BE.le (IE.len (LE.fn 8 (AL.lst (LE.rom 0) (AL.int .i64 (IE.var .i64 6) AL.nil)))) (IE.lit 1001)) :: (BE.not (BE.fn 4 (AL.lst (LE.rom 0) AL.nil))) :: pcadds_8)
def pcadds_15 : List BE := ((BE.le (IE.lit 1) (IE.len (LE.fn 8 (AL.lst (LE.rom 0) (AL.int .i64 (IE.var .i64 6) AL.nil))))) :: (BE.le (IE.len (LE.fn 8 (AL.lst (LE.rom 0) (AL.int .i64 (IE.var .i64 6) AL.nil)))) (IE.lit 1001)) :: (BE.le (IE.lit 1) (IE.len (LE.fn 6 (AL.lst (LE.rom 0) (AL.int .i64 (IE.var .i64 1) (AL.int .i64 (IE.var .i64 2) (AL.int .i64 (IE.var .i64 3) (AL.int .i64 (IE.var .i64 4) (AL.int .i64 (IE.var .i64 5) AL.nil))))))))) :: (BE.le (IE.len (LE.fn 6 (AL.lst (LE.rom 0) (AL.int .i64 (IE.var .i64 1) (AL.int .i64 (IE.var .i64 2) (AL.int .i64 (IE.var .i64 3) (AL.int .i64 (IE.var .i64 4) (AL.int .i64 (IE.var .i64 5) AL.nil)))))))) (IE.lit 1001)) :: (BE.not (BE.fn 4 (AL.lst (LE.rom 0) AL.nil))) :: pcadds_11)
def wadds_0 : VW := (VW.done ((BE.le (IE.lit 1) (IE.len (LE.fn 8 (AL.lst (LE.rom 0) (AL.int .i64 (IE.var .i64 6) AL.nil))))) :: (BE.le (IE.len (LE.fn 8 (AL.lst (LE.rom 0) (AL.int .i64 (IE.var .i64 6) AL.nil)))) (IE.lit 1001)) :: (BE.le (IE.lit 1) (IE.len (LE.fn 6 (AL.lst (LE.rom 0) (AL.int .i64 (IE.var .i64 1) (AL.int .i64 (IE.var .i64 2) (AL.int .i64 (IE.var .i64 3) (AL.int .i64 (IE.var .i64 4) (AL.int .i64 (IE.var .i64 5) AL.nil))))))))) :: (BE.le (IE.len (LE.fn 6 (AL.lst (LE.rom 0) (AL.int .i64 (IE.var .i64 1) (AL.int .i64 (IE.var .i64 2) (AL.int .i64 (IE.var .i64 3) (AL.int .i64 (IE.var .i64 4) (AL.int .i64 (IE.var .i64 5) AL.nil)))))))) (IE.lit 1001)) :: (BE.le (IE.len (LE.rom 0)) (IE.fn .i64 2 (AL.lst (LE.rom 0) (AL.int .i64 (IE.var .i64 6) AL.nil)))) :: pcadds_12) (some []))
def wadds_1 : VW := (VW.done ((BE.le (IE.lit 0) (IE.fn .i64 2 (AL.lst (LE.rom 0) (AL.int .i64 (IE.var .i64 6) AL.nil)))) :: (BE.le (IE.fn .i64 2 (AL.lst (LE.rom 0) (AL.int .i64 (IE.var .i64 6) AL.nil))) (IE.len (LE.rom 0))) :: (BE.le (IE.lit 1) (IE.len (LE.fn 8 (AL.lst (LE.rom 0) (AL.int .i64 (IE.var .i64 6) AL.nil))))) :: (BE.le (IE.len (LE.fn 8 (AL.lst (LE.rom 0) (AL.int .i64 (IE.var .i64 6) AL.nil)))) (IE.lit 1001)) :: (BE.le (IE.lit 1) (IE.len (LE.fn 6 (AL.lst (LE.rom 0) (AL.int .i64 (IE.var .i64 1) (AL.int .i64 (IE.var .i64 2) (AL.int .i64 (IE.var .i64 3) (AL.int .i64 (IE.var .i64 4) (AL.int .i64 (IE.var .i64 5) AL.nil))))))))) :: (BE.le (IE.len (LE.fn 6 (AL.lst (LE.rom 0) (AL.int .i64 (IE.var .i64 1) (AL.int .i64 (IE.var .i64 2) (AL.int .i64 (IE.var .i64 3) (AL.int .i64 (IE.var .i64 4) (AL.int .i64 (IE.var .i64 5) AL.nil)))))))) (IE.lit 1001)) :: (BE.le (IE.lit 0) (IE.fn .i64 2 (AL.lst (LE.rom 0) (AL.int .i64 (IE.var .i64 6) AL.nil)))) :: (BE.le (IE.fn .i64 2 (AL.lst (LE.rom 0) (AL.int .i64 (IE.var .i64 6) AL.nil))) (IE.len (LE.rom 0))) :: (BE.not (BE.le (IE.len (LE.rom 0)) (IE.fn .i64 2 (AL.lst (LE.rom 0) (AL.int .i64 (IE.var .i64 6) AL.nil))))) :: pcadds_12) (some []))
def wadds_2 : VW := (VW.done ((BE.le (IE.len (LE.rom 0)) (IE.fn .i64 2 (AL.lst (LE.rom 0) (AL.int .i64 (IE.var .i64 6) AL.nil)))) :: pcadds_15) (some []))
def wadds_3 : VW := (VW.done ((BE.le (IE.lit 0) (IE.fn .i64 2 (AL.lst (LE.rom 0) (AL.int .i64 (IE.var .i64 6) AL.nil)))) :: (BE.le (IE.fn .i64 2 (AL.lst (LE.rom 0) (AL.int .i64 (IE.var .i64 6) AL.nil))) (IE.len (LE.rom 0))) :: (BE.not (BE.le (IE.len (LE.rom 0)) (IE.fn .i64 2 (AL.lst (LE.rom 0) (AL.int .i64 (IE.var .i64 6) AL.nil))))) :: pcadds_15) (some []))
def wadds_4 : VW := (VW.done ((BE.le (IE.lit 1) (IE.len (LE.fn 6 (AL.lst (LE.rom 0) (AL.int .i64 (IE.var .i64 1) (AL.int .i64 (IE.var .i64 2) (AL.int .i64 (IE.var .i64 3) (AL.int .i64 (IE.var .i64 4) (AL.int .i64 (IE.var .i64 5) AL.nil))))))))) :: (BE.le (IE.len (LE.fn 6 (AL.lst (LE.rom 0) (AL.int .i64 (IE.var .i64 1) (AL.int .i64 (IE.var .i64 2) (AL.int .i64 (IE.var .i64 3) (AL.int .i64 (IE.var .i64 4) (AL.int .i64 (IE.var .i64 5) AL.nil)))))))) (IE.lit 1001)) :: (BE.le (IE.len (LE.rom 0)) (IE.fn .i64 2 (AL.lst (LE.rom 0) (AL.int .i64 (IE.var .i64 6) AL.nil)))) :: pcadds_9) (some []))
def wadds_5 : VW := (VW.done ((BE.le (IE.lit 0) (IE.fn .i64 2 (AL.lst (LE.rom 0) (AL.int .i64 (IE.var .i64 6) AL.nil)))) :: (BE.le (IE.fn .i64 2 (AL.lst (LE.rom 0) (AL.int .i64 (IE.var .i64 6) AL.nil))) (IE.len (LE.rom 0))) :: (BE.le (IE.lit 1) (IE.len (LE.fn 6 (AL.lst (LE.rom 0) (AL.int .i64 (IE.var .i64 1) (AL.int .i64 (IE.var .i64 2) (AL.int .i64 (IE.var .i64 3) (AL.int .i64 (IE.var .i64 4) (AL.int .i64 (IE.var .i64 5) AL.nil))))))))) :: (BE.le (IE.len (LE.fn 6 (AL.lst (LE.rom 0) (AL.int .i64 (IE.var .i64 1) (AL.int .i64 (IE.var .i64 2) (AL.int .i64 (IE.var .i64 3) (AL.int .i64 (IE.var .i64 4) (AL.int .i64 (IE.var .i64 5) AL.nil)))))))) (IE.lit 1001)) :: (BE.le (IE.lit 0) (IE.fn .i64 2 (AL.lst (LE.rom 0) (AL.int .i64 (IE.var .i64 6) AL.nil)))) :: (BE.le (IE.fn .i64 2 (AL.lst (LE.rom 0) (AL.int .i64 (IE.var .i64 6) AL.nil))) (IE.len (LE.rom 0))) :: (BE.not (BE.le (IE.len (LE.rom 0)) (IE.fn .i64 2 (AL.lst (LE.rom 0) (AL.int .i64 (IE.var .i64 6) AL.nil))))) :: pcadds_9) (some []))
def wadds_6 : VW := (VW.done ((BE.le (IE.len (LE.rom 0)) (IE.fn .i64 2 (AL.lst (LE.rom 0) (AL.int .i64 (IE.var .i64 6) AL.nil)))) :: pcadds_13) (some []))
def wadds_7 : VW := (VW.done ((BE.le (IE.lit 0) (IE.fn .i64 2 (AL.lst (LE.rom 0) (AL.int .i64 (IE.var .i64 6) AL.nil)))) :: (BE.le (IE.fn .i64 2 (AL.lst (LE.rom 0) (AL.int .i64 (IE.var .i64 6) AL.nil))) (IE.len (LE.rom 0))) :: (BE.not (BE.le (IE.len (LE.rom 0)) (IE.fn .i64 2 (AL.lst (LE.rom 0) (AL.int .i64 (IE.var .i64 6) AL.nil))))) :: pcadds_13) (some []))
def wadds_8 : VW := (VW.done ((BE.le (IE.lit 1) (IE.len (LE.fn 8 (AL.lst (LE.rom 0) (AL.int .i64 (IE.var .i64 6) AL.nil))))) :: (BE.le (IE.len (LE.fn 8 (AL.lst (LE.rom 0) (AL.int .i64 (IE.var .i64 6) AL.nil)))) (IE.lit 1001)) :: (BE.le (IE.len (LE.rom 0)) (IE.fn .i64 2 (AL.lst (LE.rom 0) (AL.int .i64 (IE.var .i64 6) AL.nil)))) :: pcadds_10) (some []))
def wadds_9 : VW := (VW.done ((BE.le (IE.lit 0) (IE.fn .i64 2 (AL.lst (LE.rom 0) (AL.int .i64 (IE.var .i64 6) AL.nil)))) :: (BE.le (IE.fn .i64 2 (AL.lst (LE.rom 0) (AL.int .i64 (IE.var .i64 6) AL.nil))) (IE.len (LE.rom 0))) :: (BE.le (IE.lit 1) (IE.len (LE.fn 8 (AL.lst (LE.rom 0) (AL.int .i64 (IE.var .i64 6) AL.nil))))) :: (BE.le (IE.len (LE.fn 8 (AL.lst (LE.rom 0) (AL.int .i64 (IE.var .i64 6) AL.nil)))) (IE.lit 1001)) :: (BE.le (IE.lit 0) (IE.fn .i64 2 (AL.lst (LE.rom 0) (AL.int .i64 (IE.var .i64 6) AL.nil)))) :: (BE.le (IE.fn .i64 2 (AL.lst (LE.rom 0) (AL.int .i64 (IE.var .i64 6) AL.nil))) (IE.len (LE.rom 0))) :: (BE.not (BE.le (IE.len (LE.rom 0)) (IE.fn .i64 2 (AL.lst (LE.rom 0) (AL.int .i64 (IE.var .i64 6) AL.nil))))) :: pcadds_10) (some []))
def wadds_10 : VW := (VW.done ((BE.le (IE.len (LE.rom 0)) (IE.fn .i64 2 (AL.lst (LE.rom 0) (AL.int .i64 (IE.var .i64 6) AL.nil)))) :: pcadds_14) (some []))
def wadds_11 : VW := (VW.done ((BE.le (IE.lit 0) (IE.fn .i64 2 (AL.lst (LE.rom 0) (AL.int .i64 (IE.var .i64 6) AL.nil)))) :: (BE.le (IE.fn .i64 2 (AL.lst (LE.rom 0) (AL.int .i64 (IE.var .i64 6) AL.nil))) (IE.len (LE.rom 0))) :: (BE.not (BE.le (IE.len (LE.rom 0)) (IE.fn .i64 2 (AL.lst (LE.rom 0) (AL.int .i64 (IE.var .i64 6) AL.nil))))) :: pcadds_14) (some []))
def wadds_12 : VW := (VW.done ((BE.le (IE.len (LE.rom 0)) (IE.fn .i64 2 (AL.lst (LE.rom 0) (AL.int .i64 (IE.var .i64 6) AL.nil)))) :: pcadds_5) (some []))
def wadds_13 : VW := (VW.done ((BE.le (IE.lit 0) (IE.fn .i64 2 (AL.lst (LE.rom 0) (AL.int .i64 (IE.var .i64 6) AL.nil)))) :: (BE.le (IE.fn .i64 2 (AL.lst (LE.rom 0) (AL.int .i64 (IE.var .i64 6) AL.nil))) (IE.len (LE.rom 0))) :: (BE.le (IE.lit 0) (IE.fn .i64 2 (AL.lst (LE.rom 0) (AL.int .i64 (IE.var .i64 6) AL.nil)))) :: (BE.le (IE.fn .i64 2 (AL.lst (LE.rom 0) (AL.int .i64 (IE.var .i64 6) AL.nil))) (IE.len (LE.rom 0))) :: (BE.not (BE.le (IE.len (LE.rom 0)) (IE.fn .i64 2 (AL.lst (LE.rom 0) (AL.int .i64 (IE.var .i64 6) AL.nil))))) :: pcadds_5) (some []))
def wadds_14 : VW := (VW.done ((BE.le (IE.len (LE.rom 0)) (IE.fn .i64 2 (AL.lst (LE.rom 0) (AL.int .i64 (IE.var .i64 6) AL.nil)))) :: pcadds_6) (some []))
def wadds_15 : VW := (VW.done ((BE.le (IE.lit 0) (IE.fn .i64 2 (AL.lst (LE.rom 0) (AL.int .i64 (IE.var .i64 6) AL.nil)))) :: (BE.le (IE.fn .i64 2 (AL.lst (LE.rom 0) (AL.int .i64 (IE.var .i64 6) AL.nil))) (IE.len (LE.rom 0))) :: (BE.not (BE.le (IE.len (LE.rom 0)) (IE.fn .i64 2 (AL.lst (LE.rom 0) (AL.int .i64 (IE.var .i64 6) AL.nil))))) :: pcadds_6) (some []))
def wadds_16 : VW := (VW.done ((BE.not (BE.le (IE.len (LE.rom 0)) (IE.lit 300))) :: pcadds_0) (some []))
def vwadds : List VW := [wadds_0, wadds_1, wadds_2, wadds_3, wadds_4, wadds_5, wadds_6, wadds_7, wadds_8, wadds_9, wadds_10, wadds_11, wadds_12, wadds_13, wadds_14, wadds_15, wadds_16]
end
theorem vcadds_0 : VD TTadds (st0 cAdds) wadds_0 := by
  intro ρ kn hp
  exact all_nil
theorem vcadds_1 : VD TTadds (st0 cAdds) wadds_1 := by
  intro ρ kn hp
  exact all_nil
theorem vcadds_2 : VD TTadds (st0 cAdds) wadds_2 := by
  intro ρ kn hp
  exact all_nil
theorem vcadds_3 : VD TTadds (st0 cAdds) wadds_3 := by
  intro ρ kn hp
  exact all_nil
theorem vcadds_4 : VD TTadds (st0 cAdds) wadds_4 := by
  intro ρ kn hp
  exact all_nil
theorem vcadds_5 : VD TTadds (st0 cAdds) wadds_5 := by
  intro ρ kn hp
  exact all_nil
theorem vcadds_6 : VD TTadds (st0 cAdds) wadds_6 := by
  intro ρ kn hp
  exact all_nil
theorem vcadds_7 : VD TTadds (st0 cAdds) wadds_7 := by
  intro ρ kn hp
  exact all_nil
theorem vcadds_8 : VD TTadds (st0 cAdds) wadds_8 := by
  intro ρ kn hp
  exact all_nil
theorem vcadds_9 : VD TTadds (st0 cAdds) wadds_9 := by
  intro ρ kn hp
  exact all_nil
theorem vcadds_10 : VD TTadds (st0 cAdds) wadds_10 := by
  intro ρ kn hp
  exact all_nil
theorem vcadds_11 : VD TTadds (st0 cAdds) wadds_11 := by
  intro ρ kn hp
  exact all_nil
theorem vcadds_12 : VD TTadds (st0 cAdds) wadds_12 := by
  intro ρ kn hp
  exact all_nil
theorem vcadds_13 : VD TTadds (st0 cAdds) wadds_13 := by
  intro ρ kn hp
  exact all_nil
theorem vcadds_14 : VD TTadds (st0 cAdds) wadds_14 := by
  intro ρ kn hp
  exact all_nil
theorem vcadds_15 : VD TTadds (st0 cAdds) wadds_15 := by
  intro ρ kn hp
  exact all_nil
theorem vcadds_16 : VD TTadds (st0 cAdds) wadds_16 := by
  intro ρ kn hp
  exact all_nil
theorem told_adds : Sx.Told wt.Φ cAdds := told_vw (cs := [cWorks, cQueueP, cQueueR, cMayP, cMayR, cRFin, cRFout, cFindIn, cFindOut, cFindNo, cSame, cAddOk, cAddNo, cRAddOk, cRAddNo, cDropOk, cDropNo, cRDropOk, cRDropNo]) (all_cons told_works (all_cons told_queueP (all_cons told_queueR (all_cons told_mayP (all_cons told_mayR (all_cons told_rfin (all_cons told_rfout (all_cons told_findIn (all_cons told_findOut (all_cons told_findNo (all_cons told_same (all_cons told_addOk (all_cons told_addNo (all_cons told_raddOk (all_cons told_raddNo (all_cons told_dropOk (all_cons told_dropNo (all_cons told_rdropOk (all_cons told_rdropNo (all_nil)))))))))))))))))))) 20000 vwadds (by kernel_rfl) (by kernel_rfl) (by kernel_rfl) (post_nil rfl) (by kernel_rfl) (by kernel_rfl) (all_cons vcadds_0 (all_cons vcadds_1 (all_cons vcadds_2 (all_cons vcadds_3 (all_cons vcadds_4 (all_cons vcadds_5 (all_cons vcadds_6 (all_cons vcadds_7 (all_cons vcadds_8 (all_cons vcadds_9 (all_cons vcadds_10 (all_cons vcadds_11 (all_cons vcadds_12 (all_cons vcadds_13 (all_cons vcadds_14 (all_cons vcadds_15 (all_cons vcadds_16 (all_nil))))))))))))))))))
noncomputable section
abbrev TTadds1 : Tab := T wt.Φ cAdds1.roms [cWorks, cQueueP, cQueueR, cMayP, cMayR, cRFin, cRFout, cFindIn, cFindOut, cFindNo, cSame, cAddOk, cAddNo, cRAddOk, cRAddNo]
def pcadds1_0 : List BE := [(BE.lit true), (BE.eq (IE.len (LE.rom 0)) (IE.lit 1))]
def pcadds1_1 : List BE := ((BE.not (BE.eq (IE.fn .i64 5 (AL.lst (LE.rom 0) (AL.int .i64 (IE.var .i64 1) (AL.int .i64 (IE.var .i64 2) (AL.int .i64 (IE.var .i64 3) (AL.int .i64 (IE.var .i64 4) (AL.int .i64 (IE.var .i64 5) AL.nil))))))) (IE.lit 0))) :: pcadds1_0)
def pcadds1_2 : List BE := ((BE.fn 4 (AL.lst (LE.rom 0) AL.nil)) :: pcadds1_1)
def pcadds1_3 : List BE := ((BE.not (BE.fn 4 (AL.lst (LE.rom 0) AL.nil))) :: pcadds1_1)
def pcadds1_4 : List BE := ((BE.le (IE.lit 1) (IE.len (LE.fn 6 (AL.lst (LE.rom 0) (AL.int .i64 (IE.var .i64 1) (AL.int .i64 (IE.var .i64 2) (AL.int .i64 (IE.var .i64 3) (AL.int .i64 (IE.var .i64 4) (AL.int .i64 (IE.var .i64 5) AL.nil))))))))) :: (BE.le (IE.len (LE.fn 6 (AL.lst (LE.rom 0) (AL.int .i64 (IE.var .i64 1) (AL.int .i64 (IE.var .i64 2) (AL.int .i64 (IE.var .i64 3) (AL.int .i64 (IE.var .i64 4) (AL.int .i64 (IE.var .i64 5) AL.nil)))))))) (IE.lit 1001)) :: (BE.eq (IE.fn .i64 5 (AL.lst (LE.rom 0) (AL.int .i64 (IE.var .i64 1) (AL.int .i64 (IE.var .i64 2) (AL.int .i64 (IE.var .i64 3) (AL.int .i64 (IE.var .i64 4) (AL.int .i64 (IE.var .i64 5) AL.nil))))))) (IE.lit 0)) :: pcadds1_0)
def pcadds1_5 : List BE := ((BE.fn 4 (AL.lst (LE.rom 0) AL.nil)) :: pcadds1_4)
def pcadds1_6 : List BE := ((BE.le (IE.lit 1) (IE.len (LE.fn 6 (AL.lst (LE.rom 0) (AL.int .i64 (IE.var .i64 1) (AL.int .i64 (IE.var .i64 2) (AL.int .i64 (IE.var .i64 3) (AL.int .i64 (IE.var .i64 4) (AL.int .i64 (IE.var .i64 5) AL.nil))))))))) :: (BE.le (IE.len (LE.fn 6 (AL.lst (LE.rom 0) (AL.int .i64 (IE.var .i64 1) (AL.int .i64 (IE.var .i64 2) (AL.int .i64 (IE.var .i64 3) (AL.int .i64 (IE.var .i64 4) (AL.int .i64 (IE.var .i64 5) AL.nil)))))))) (IE.lit 1001)) :: (BE.not (BE.fn 4 (AL.lst (LE.rom 0) AL.nil))) :: pcadds1_4)
def pcadds1_7 : List BE := ((BE.le (IE.lit 0) (IE.fn .i64 2 (AL.lst (LE.rom 0) (AL.int .i64 (IE.var .i64 6) AL.nil)))) :: (BE.le (IE.fn .i64 2 (AL.lst (LE.rom 0) (AL.int .i64 (IE.var .i64 6) AL.nil))) (IE.len (LE.rom 0))) :: (BE.le (IE.lit 0) (IE.fn .i64 2 (AL.lst (LE.rom 0) (AL.int .i64 (IE.var .i64 6) AL.nil)))) :: (BE.le (IE.fn .i64 2 (AL.lst (LE.rom 0) (AL.int .i64 (IE.var .i64 6) AL.nil))) (IE.len (LE.rom 0))) :: (BE.le (IE.lit 0) (IE.fn .i64 2 (AL.lst (LE.rom 0) (AL.int .i64 (IE.var .i64 6) AL.nil)))) :: (BE.le (IE.fn .i64 2 (AL.lst (LE.rom 0) (AL.int .i64 (IE.var .i64 6) AL.nil))) (IE.len (LE.rom 0))) :: (BE.not (BE.le (IE.len (LE.rom 0)) (IE.fn .i64 2 (AL.lst (LE.rom 0) (AL.int .i64 (IE.var .i64 6) AL.nil))))) :: pcadds1_2)
def pcadds1_8 : List BE := ((BE.le (IE.lit 0) (IE.fn .i64 2 (AL.lst (LE.rom 0) (AL.int .i64 (IE.var .i64 6) AL.nil)))) :: (BE.le (IE.fn .i64 2 (AL.lst (LE.rom 0) (AL.int .i64 (IE.var .i64 6) AL.nil))) (IE.len (LE.rom 0))) :: (BE.le (IE.lit 1) (IE.len (LE.fn 6 (AL.lst (LE.rom 0) (AL.int .i64 (IE.var .i64 1) (AL.int .i64 (IE.var .i64 2) (AL.int .i64 (IE.var .i64 3) (AL.int .i64 (IE.var .i64 4) (AL.int .i64 (IE.var .i64 5) AL.nil))))))))) :: (BE.le (IE.len (LE.fn 6 (AL.lst (LE.rom 0) (AL.int .i64 (IE.var .i64 1) (AL.int .i64 (IE.var .i64 2) (AL.int .i64 (IE.var .i64 3) (AL.int .i64 (IE.var .i64 4) (AL.int .i64 (IE.var .i64 5) AL.nil)))))))) (IE.lit 1001)) :: (BE.le (IE.lit 0) (IE.fn .i64 2 (AL.lst (LE.rom 0) (AL.int .i64 (IE.var .i64 6) AL.nil)))) :: (BE.le (IE.fn .i64 2 (AL.lst (LE.rom 0) (AL.int .i64 (IE.var .i64 6) AL.nil))) (IE.len (LE.rom 0))) :: (BE.le (IE.lit 0) (IE.fn .i64 2 (AL.lst (LE.rom 0) (AL.int .i64 (IE.var .i64 6) AL.nil)))) :: (BE.le (IE.fn .i64 2 (AL.lst (LE.rom 0) (AL.int .i64 (IE.var .i64 6) AL.nil))) (IE.len (LE.rom 0))) :: (BE.not (BE.le (IE.len (LE.rom 0)) (IE.fn .i64 2 (AL.lst (LE.rom 0) (AL.int .i64 (IE.var .i64 6) AL.nil))))) :: pcadds1_5)
def wadds1_0 : VW := (VW.done ((BE.le (IE.lit 1) (IE.len (LE.fn 6 (AL.lst (LE.rom 0) (AL.int .i64 (IE.var .i64 1) (AL.int .i64 (IE.var .i64 2) (AL.int .i64 (IE.var .i64 3) (AL.int .i64 (IE.var .i64 4) (AL.int .i64 (IE.var .i64 5) AL.nil))))))))) :: (BE.le (IE.len (LE.fn 6 (AL.lst (LE.rom 0) (AL.int .i64 (IE.var .i64 1) (AL.int .i64 (IE.var .i64 2) (AL.int .i64 (IE.var .i64 3) (AL.int .i64 (IE.var .i64 4) (AL.int .i64 (IE.var .i64 5) AL.nil)))))))) (IE.lit 1001)) :: (BE.le (IE.len (LE.rom 0)) (IE.fn .i64 2 (AL.lst (LE.rom 0) (AL.int .i64 (IE.var .i64 6) AL.nil)))) :: pcadds1_5) (some []))
def wadds1_1 : VW := (VW.done ((BE.le (IE.lit 0) (IE.fn .i64 2 (AL.lst (LE.rom 0) (AL.int .i64 (IE.var .i64 6) AL.nil)))) :: (BE.le (IE.fn .i64 2 (AL.lst (LE.rom 0) (AL.int .i64 (IE.var .i64 6) AL.nil))) (IE.len (LE.rom 0))) :: (BE.eq (IE.rcap 0) (IE.add (IE.fn .i64 2 (AL.lst (LE.rom 0) (AL.int .i64 (IE.var .i64 6) AL.nil))) (IE.lit 1))) :: pcadds1_8) (some []))
def wadds1_2 : VW := (VW.done ((BE.le (IE.lit 0) (IE.fn .i64 2 (AL.lst (LE.rom 0) (AL.int .i64 (IE.var .i64 6) AL.nil)))) :: (BE.le (IE.fn .i64 2 (AL.lst (LE.rom 0) (AL.int .i64 (IE.var .i64 6) AL.nil))) (IE.len (LE.rom 0))) :: (BE.not (BE.eq (IE.rcap 0) (IE.add (IE.fn .i64 2 (AL.lst (LE.rom 0) (AL.int .i64 (IE.var .i64 6) AL.nil))) (IE.lit 1)))) :: pcadds1_8) (some []))
def wadds1_3 : VW := (VW.done ((BE.le (IE.len (LE.rom 0)) (IE.fn .i64 2 (AL.lst (LE.rom 0) (AL.int .i64 (IE.var .i64 6) AL.nil)))) :: pcadds1_6) (some []))
def wadds1_4 : VW := (VW.done ((BE.le (IE.lit 0) (IE.fn .i64 2 (AL.lst (LE.rom 0) (AL.int .i64 (IE.var .i64 6) AL.nil)))) :: (BE.le (IE.fn .i64 2 (AL.lst (LE.rom 0) (AL.int .i64 (IE.var .i64 6) AL.nil))) (IE.len (LE.rom 0))) :: (BE.not (BE.le (IE.len (LE.rom 0)) (IE.fn .i64 2 (AL.lst (LE.rom 0) (AL.int .i64 (IE.var .i64 6) AL.nil))))) :: pcadds1_6) (some []))
def wadds1_5 : VW := (VW.done ((BE.le (IE.len (LE.rom 0)) (IE.fn .i64 2 (AL.lst (LE.rom 0) (AL.int .i64 (IE.var .i64 6) AL.nil)))) :: pcadds1_2) (some []))
def wadds1_6 : VW := (VW.done ((BE.le (IE.lit 0) (IE.fn .i64 2 (AL.lst (LE.rom 0) (AL.int .i64 (IE.var .i64 6) AL.nil)))) :: (BE.le (IE.fn .i64 2 (AL.lst (LE.rom 0) (AL.int .i64 (IE.var .i64 6) AL.nil))) (IE.len (LE.rom 0))) :: (BE.eq (IE.rcap 0) (IE.add (IE.fn .i64 2 (AL.lst (LE.rom 0) (AL.int .i64 (IE.var .i64 6) AL.nil))) (IE.lit 1))) :: pcadds1_7) (some []))
def wadds1_7 : VW := (VW.done ((BE.le (IE.lit 0) (IE.fn .i64 2 (AL.lst (LE.rom 0) (AL.int .i64 (IE.var .i64 6) AL.nil)))) :: (BE.le (IE.fn .i64 2 (AL.lst (LE.rom 0) (AL.int .i64 (IE.var .i64 6) AL.nil))) (IE.len (LE.rom 0))) :: (BE.not (BE.eq (IE.rcap 0) (IE.add (IE.fn .i64 2 (AL.lst (LE.rom 0) (AL.int .i64 (IE.var .i64 6) AL.nil))) (IE.lit 1)))) :: pcadds1_7) (some []))
def wadds1_8 : VW := (VW.done ((BE.le (IE.len (LE.rom 0)) (IE.fn .i64 2 (AL.lst (LE.rom 0) (AL.int .i64 (IE.var .i64 6) AL.nil)))) :: pcadds1_3) (some []))
def wadds1_9 : VW := (VW.done ((BE.le (IE.lit 0) (IE.fn .i64 2 (AL.lst (LE.rom 0) (AL.int .i64 (IE.var .i64 6) AL.nil)))) :: (BE.le (IE.fn .i64 2 (AL.lst (LE.rom 0) (AL.int .i64 (IE.var .i64 6) AL.nil))) (IE.len (LE.rom 0))) :: (BE.not (BE.le (IE.len (LE.rom 0)) (IE.fn .i64 2 (AL.lst (LE.rom 0) (AL.int .i64 (IE.var .i64 6) AL.nil))))) :: pcadds1_3) (some []))
def vwadds1 : List VW := [wadds1_0, wadds1_1, wadds1_2, wadds1_3, wadds1_4, wadds1_5, wadds1_6, wadds1_7, wadds1_8, wadds1_9]
end
theorem vcadds1_0 : VD TTadds1 (st0 cAdds1) wadds1_0 := by
  intro ρ kn hp
  exact all_nil
theorem vcadds1_1 : VD TTadds1 (st0 cAdds1) wadds1_1 := by
  intro ρ kn hp
  exact all_nil
theorem vcadds1_2 : VD TTadds1 (st0 cAdds1) wadds1_2 := by
  intro ρ kn hp
  exact all_nil
theorem vcadds1_3 : VD TTadds1 (st0 cAdds1) wadds1_3 := by
  intro ρ kn hp
  exact all_nil
theorem vcadds1_4 : VD TTadds1 (st0 cAdds1) wadds1_4 := by
  intro ρ kn hp
  exact all_nil
theorem vcadds1_5 : VD TTadds1 (st0 cAdds1) wadds1_5 := by
  intro ρ kn hp
  exact all_nil
theorem vcadds1_6 : VD TTadds1 (st0 cAdds1) wadds1_6 := by
  intro ρ kn hp
  exact all_nil
theorem vcadds1_7 : VD TTadds1 (st0 cAdds1) wadds1_7 := by
  intro ρ kn hp
  exact all_nil
theorem vcadds1_8 : VD TTadds1 (st0 cAdds1) wadds1_8 := by
  intro ρ kn hp
  exact all_nil
theorem vcadds1_9 : VD TTadds1 (st0 cAdds1) wadds1_9 := by
  intro ρ kn hp
  exact all_nil
theorem told_adds1 : Sx.Told wt.Φ cAdds1 := told_vw (cs := [cWorks, cQueueP, cQueueR, cMayP, cMayR, cRFin, cRFout, cFindIn, cFindOut, cFindNo, cSame, cAddOk, cAddNo, cRAddOk, cRAddNo]) (all_cons told_works (all_cons told_queueP (all_cons told_queueR (all_cons told_mayP (all_cons told_mayR (all_cons told_rfin (all_cons told_rfout (all_cons told_findIn (all_cons told_findOut (all_cons told_findNo (all_cons told_same (all_cons told_addOk (all_cons told_addNo (all_cons told_raddOk (all_cons told_raddNo (all_nil)))))))))))))))) 20000 vwadds1 (by kernel_rfl) (by kernel_rfl) (by kernel_rfl) (post_nil rfl) (by kernel_rfl) (by kernel_rfl) (all_cons vcadds1_0 (all_cons vcadds1_1 (all_cons vcadds1_2 (all_cons vcadds1_3 (all_cons vcadds1_4 (all_cons vcadds1_5 (all_cons vcadds1_6 (all_cons vcadds1_7 (all_cons vcadds1_8 (all_cons vcadds1_9 (all_nil)))))))))))
noncomputable section
abbrev TTaddsz : Tab := T wt.Φ cAdds0.roms [cWorks, cQueueP, cQueueR, cMayP, cMayR, cRFin, cRFout, cFindIn, cFindOut, cFindNo, cSame]
def pcaddsz_0 : List BE := [(BE.lit true)]
def pcaddsz_1 : List BE := ((BE.fn 2 (AL.int .i64 (IE.var .i64 1) (AL.int .i64 (IE.var .i64 2) (AL.int .i64 (IE.var .i64 3) (AL.int .i64 (IE.var .i64 4) (AL.int .i64 (IE.var .i64 5) AL.nil)))))) :: pcaddsz_0)
def pcaddsz_2 : List BE := ((BE.not (BE.fn 2 (AL.int .i64 (IE.var .i64 1) (AL.int .i64 (IE.var .i64 2) (AL.int .i64 (IE.var .i64 3) (AL.int .i64 (IE.var .i64 4) (AL.int .i64 (IE.var .i64 5) AL.nil))))))) :: pcaddsz_0)
def pcaddsz_3 : List BE := ((BE.fn 4 (AL.lst (LE.take (LE.rom 0) (IE.lit 0)) AL.nil)) :: pcaddsz_1)
def pcaddsz_4 : List BE := ((BE.not (BE.fn 4 (AL.lst (LE.take (LE.rom 0) (IE.lit 0)) AL.nil))) :: pcaddsz_1)
def pcaddsz_5 : List BE := ((BE.fn 4 (AL.lst (LE.take (LE.rom 0) (IE.lit 0)) AL.nil)) :: pcaddsz_2)
def pcaddsz_6 : List BE := ((BE.le (IE.lit 0) (IE.fn .i64 2 (AL.lst (LE.take (LE.rom 0) (IE.lit 0)) (AL.int .i64 (IE.var .i64 1) AL.nil)))) :: pcaddsz_3)
def pcaddsz_7 : List BE := ((BE.le (IE.lit 0) (IE.fn .i64 2 (AL.lst (LE.take (LE.rom 0) (IE.lit 0)) (AL.int .i64 (IE.var .i64 1) AL.nil)))) :: (BE.le (IE.fn .i64 2 (AL.lst (LE.take (LE.rom 0) (IE.lit 0)) (AL.int .i64 (IE.var .i64 1) AL.nil))) (IE.lit 0)) :: (BE.not (BE.le (IE.lit 0) (IE.fn .i64 2 (AL.lst (LE.take (LE.rom 0) (IE.lit 0)) (AL.int .i64 (IE.var .i64 1) AL.nil))))) :: pcaddsz_3)
def pcaddsz_8 : List BE := ((BE.le (IE.lit 0) (IE.fn .i64 2 (AL.lst (LE.take (LE.rom 0) (IE.lit 0)) (AL.int .i64 (IE.var .i64 6) AL.nil)))) :: pcaddsz_7)
def pcaddsz_9 : List BE := ((BE.le (IE.lit 0) (IE.fn .i64 2 (AL.lst (LE.take (LE.rom 0) (IE.lit 0)) (AL.int .i64 (IE.var .i64 6) AL.nil)))) :: (BE.le (IE.fn .i64 2 (AL.lst (LE.take (LE.rom 0) (IE.lit 0)) (AL.int .i64 (IE.var .i64 6) AL.nil))) (IE.lit 0)) :: (BE.not (BE.le (IE.lit 0) (IE.fn .i64 2 (AL.lst (LE.take (LE.rom 0) (IE.lit 0)) (AL.int .i64 (IE.var .i64 6) AL.nil))))) :: pcaddsz_7)
def waddsz_0 : VW := (VW.done ((BE.le (IE.lit 0) (IE.fn .i64 2 (AL.lst (LE.take (LE.rom 0) (IE.lit 0)) (AL.int .i64 (IE.var .i64 6) AL.nil)))) :: pcaddsz_6) (some []))
def waddsz_1 : VW := (VW.done ((BE.le (IE.lit 0) (IE.fn .i64 2 (AL.lst (LE.take (LE.rom 0) (IE.lit 0)) (AL.int .i64 (IE.var .i64 6) AL.nil)))) :: (BE.le (IE.fn .i64 2 (AL.lst (LE.take (LE.rom 0) (IE.lit 0)) (AL.int .i64 (IE.var .i64 6) AL.nil))) (IE.lit 0)) :: (BE.not (BE.le (IE.lit 0) (IE.fn .i64 2 (AL.lst (LE.take (LE.rom 0) (IE.lit 0)) (AL.int .i64 (IE.var .i64 6) AL.nil))))) :: pcaddsz_6) (some [(G.b (BE.lit true) (BE.lit false))]))
def waddsz_2 : VW := (VW.done ((BE.leq (LE.cat (LE.cat (LE.take (LE.cat (LE.take (LE.rep (AL.int .i64 (IE.lit 0) (AL.int .i64 (IE.lit 0) (AL.int .i64 (IE.lit 0) (AL.int .i64 (IE.lit 0) (AL.int .i64 (IE.lit 0) AL.nil))))) (IE.lit 1)) (IE.lit 0)) (LE.rep (AL.int .i64 (IE.lit 0) (AL.int .i64 (IE.lit 0) (AL.int .i64 (IE.lit 0) (AL.int .i64 (IE.lit 0) (AL.int .i64 (IE.lit 0) AL.nil))))) (IE.lit 1))) (IE.lit 0)) (LE.one (AL.int .i64 (IE.var .i64 1) (AL.int .i64 (IE.var .i64 2) (AL.int .i64 (IE.var .i64 3) (AL.int .i64 (IE.var .i64 4) (AL.int .i64 (IE.var .i64 5) AL.nil))))))) (LE.drop (LE.cat (LE.take (LE.rep (AL.int .i64 (IE.lit 0) (AL.int .i64 (IE.lit 0) (AL.int .i64 (IE.lit 0) (AL.int .i64 (IE.lit 0) (AL.int .i64 (IE.lit 0) AL.nil))))) (IE.lit 1)) (IE.lit 0)) (LE.rep (AL.int .i64 (IE.lit 0) (AL.int .i64 (IE.lit 0) (AL.int .i64 (IE.lit 0) (AL.int .i64 (IE.lit 0) (AL.int .i64 (IE.lit 0) AL.nil))))) (IE.lit 1))) (IE.lit 1))) LE.nil) :: pcaddsz_8) (some [(G.b (BE.lit true) (BE.lit false))]))
def waddsz_3 : VW := (VW.done ((BE.not (BE.leq (LE.cat (LE.cat (LE.take (LE.cat (LE.take (LE.rep (AL.int .i64 (IE.lit 0) (AL.int .i64 (IE.lit 0) (AL.int .i64 (IE.lit 0) (AL.int .i64 (IE.lit 0) (AL.int .i64 (IE.lit 0) AL.nil))))) (IE.lit 1)) (IE.lit 0)) (LE.rep (AL.int .i64 (IE.lit 0) (AL.int .i64 (IE.lit 0) (AL.int .i64 (IE.lit 0) (AL.int .i64 (IE.lit 0) (AL.int .i64 (IE.lit 0) AL.nil))))) (IE.lit 1))) (IE.lit 0)) (LE.one (AL.int .i64 (IE.var .i64 1) (AL.int .i64 (IE.var .i64 2) (AL.int .i64 (IE.var .i64 3) (AL.int .i64 (IE.var .i64 4) (AL.int .i64 (IE.var .i64 5) AL.nil))))))) (LE.drop (LE.cat (LE.take (LE.rep (AL.int .i64 (IE.lit 0) (AL.int .i64 (IE.lit 0) (AL.int .i64 (IE.lit 0) (AL.int .i64 (IE.lit 0) (AL.int .i64 (IE.lit 0) AL.nil))))) (IE.lit 1)) (IE.lit 0)) (LE.rep (AL.int .i64 (IE.lit 0) (AL.int .i64 (IE.lit 0) (AL.int .i64 (IE.lit 0) (AL.int .i64 (IE.lit 0) (AL.int .i64 (IE.lit 0) AL.nil))))) (IE.lit 1))) (IE.lit 1))) LE.nil)) :: pcaddsz_8) (some [(G.b (BE.lit true) (BE.lit false))]))
def waddsz_4 : VW := (VW.done ((BE.leq (LE.cat (LE.cat (LE.take (LE.cat (LE.take (LE.rep (AL.int .i64 (IE.lit 0) (AL.int .i64 (IE.lit 0) (AL.int .i64 (IE.lit 0) (AL.int .i64 (IE.lit 0) (AL.int .i64 (IE.lit 0) AL.nil))))) (IE.lit 1)) (IE.lit 0)) (LE.rep (AL.int .i64 (IE.lit 0) (AL.int .i64 (IE.lit 0) (AL.int .i64 (IE.lit 0) (AL.int .i64 (IE.lit 0) (AL.int .i64 (IE.lit 0) AL.nil))))) (IE.lit 1))) (IE.lit 0)) (LE.one (AL.int .i64 (IE.var .i64 1) (AL.int .i64 (IE.var .i64 2) (AL.int .i64 (IE.var .i64 3) (AL.int .i64 (IE.var .i64 4) (AL.int .i64 (IE.var .i64 5) AL.nil))))))) (LE.drop (LE.cat (LE.take (LE.rep (AL.int .i64 (IE.lit 0) (AL.int .i64 (IE.lit 0) (AL.int .i64 (IE.lit 0) (AL.int .i64 (IE.lit 0) (AL.int .i64 (IE.lit 0) AL.nil))))) (IE.lit 1)) (IE.lit 0)) (LE.rep (AL.int .i64 (IE.lit 0) (AL.int .i64 (IE.lit 0) (AL.int .i64 (IE.lit 0) (AL.int .i64 (IE.lit 0) (AL.int .i64 (IE.lit 0) AL.nil))))) (IE.lit 1))) (IE.lit 1))) LE.nil) :: pcaddsz_9) (some [(G.b (BE.lit true) (BE.lit false))]))
def waddsz_5 : VW := (VW.done ((BE.not (BE.leq (LE.cat (LE.cat (LE.take (LE.cat (LE.take (LE.rep (AL.int .i64 (IE.lit 0) (AL.int .i64 (IE.lit 0) (AL.int .i64 (IE.lit 0) (AL.int .i64 (IE.lit 0) (AL.int .i64 (IE.lit 0) AL.nil))))) (IE.lit 1)) (IE.lit 0)) (LE.rep (AL.int .i64 (IE.lit 0) (AL.int .i64 (IE.lit 0) (AL.int .i64 (IE.lit 0) (AL.int .i64 (IE.lit 0) (AL.int .i64 (IE.lit 0) AL.nil))))) (IE.lit 1))) (IE.lit 0)) (LE.one (AL.int .i64 (IE.var .i64 1) (AL.int .i64 (IE.var .i64 2) (AL.int .i64 (IE.var .i64 3) (AL.int .i64 (IE.var .i64 4) (AL.int .i64 (IE.var .i64 5) AL.nil))))))) (LE.drop (LE.cat (LE.take (LE.rep (AL.int .i64 (IE.lit 0) (AL.int .i64 (IE.lit 0) (AL.int .i64 (IE.lit 0) (AL.int .i64 (IE.lit 0) (AL.int .i64 (IE.lit 0) AL.nil))))) (IE.lit 1)) (IE.lit 0)) (LE.rep (AL.int .i64 (IE.lit 0) (AL.int .i64 (IE.lit 0) (AL.int .i64 (IE.lit 0) (AL.int .i64 (IE.lit 0) (AL.int .i64 (IE.lit 0) AL.nil))))) (IE.lit 1))) (IE.lit 1))) LE.nil)) :: pcaddsz_9) (some [(G.b (BE.lit true) (BE.lit false))]))
def waddsz_6 : VW := (VW.done ((BE.leq (LE.cat (LE.cat (LE.take (LE.cat (LE.take (LE.rep (AL.int .i64 (IE.lit 0) (AL.int .i64 (IE.lit 0) (AL.int .i64 (IE.lit 0) (AL.int .i64 (IE.lit 0) (AL.int .i64 (IE.lit 0) AL.nil))))) (IE.lit 1)) (IE.lit 0)) (LE.rep (AL.int .i64 (IE.lit 0) (AL.int .i64 (IE.lit 0) (AL.int .i64 (IE.lit 0) (AL.int .i64 (IE.lit 0) (AL.int .i64 (IE.lit 0) AL.nil))))) (IE.lit 1))) (IE.lit 0)) (LE.one (AL.int .i64 (IE.var .i64 1) (AL.int .i64 (IE.var .i64 2) (AL.int .i64 (IE.var .i64 3) (AL.int .i64 (IE.var .i64 4) (AL.int .i64 (IE.var .i64 5) AL.nil))))))) (LE.drop (LE.cat (LE.take (LE.rep (AL.int .i64 (IE.lit 0) (AL.int .i64 (IE.lit 0) (AL.int .i64 (IE.lit 0) (AL.int .i64 (IE.lit 0) (AL.int .i64 (IE.lit 0) AL.nil))))) (IE.lit 1)) (IE.lit 0)) (LE.rep (AL.int .i64 (IE.lit 0) (AL.int .i64 (IE.lit 0) (AL.int .i64 (IE.lit 0) (AL.int .i64 (IE.lit 0) (AL.int .i64 (IE.lit 0) AL.nil))))) (IE.lit 1))) (IE.lit 1))) LE.nil) :: pcaddsz_4) (some [(G.b (BE.lit true) (BE.lit false))]))
def waddsz_7 : VW := (VW.done ((BE.not (BE.leq (LE.cat (LE.cat (LE.take (LE.cat (LE.take (LE.rep (AL.int .i64 (IE.lit 0) (AL.int .i64 (IE.lit 0) (AL.int .i64 (IE.lit 0) (AL.int .i64 (IE.lit 0) (AL.int .i64 (IE.lit 0) AL.nil))))) (IE.lit 1)) (IE.lit 0)) (LE.rep (AL.int .i64 (IE.lit 0) (AL.int .i64 (IE.lit 0) (AL.int .i64 (IE.lit 0) (AL.int .i64 (IE.lit 0) (AL.int .i64 (IE.lit 0) AL.nil))))) (IE.lit 1))) (IE.lit 0)) (LE.one (AL.int .i64 (IE.var .i64 1) (AL.int .i64 (IE.var .i64 2) (AL.int .i64 (IE.var .i64 3) (AL.int .i64 (IE.var .i64 4) (AL.int .i64 (IE.var .i64 5) AL.nil))))))) (LE.drop (LE.cat (LE.take (LE.rep (AL.int .i64 (IE.lit 0) (AL.int .i64 (IE.lit 0) (AL.int .i64 (IE.lit 0) (AL.int .i64 (IE.lit 0) (AL.int .i64 (IE.lit 0) AL.nil))))) (IE.lit 1)) (IE.lit 0)) (LE.rep (AL.int .i64 (IE.lit 0) (AL.int .i64 (IE.lit 0) (AL.int .i64 (IE.lit 0) (AL.int .i64 (IE.lit 0) (AL.int .i64 (IE.lit 0) AL.nil))))) (IE.lit 1))) (IE.lit 1))) LE.nil)) :: pcaddsz_4) (some [(G.b (BE.lit true) (BE.lit false))]))
def waddsz_8 : VW := (VW.done ((BE.le (IE.lit 0) (IE.fn .i64 2 (AL.lst (LE.take (LE.rom 0) (IE.lit 0)) (AL.int .i64 (IE.var .i64 6) AL.nil)))) :: pcaddsz_5) (some []))
def waddsz_9 : VW := (VW.done ((BE.le (IE.lit 0) (IE.fn .i64 2 (AL.lst (LE.take (LE.rom 0) (IE.lit 0)) (AL.int .i64 (IE.var .i64 6) AL.nil)))) :: (BE.le (IE.fn .i64 2 (AL.lst (LE.take (LE.rom 0) (IE.lit 0)) (AL.int .i64 (IE.var .i64 6) AL.nil))) (IE.lit 0)) :: (BE.not (BE.le (IE.lit 0) (IE.fn .i64 2 (AL.lst (LE.take (LE.rom 0) (IE.lit 0)) (AL.int .i64 (IE.var .i64 6) AL.nil))))) :: pcaddsz_5) (some [(G.b (BE.lit true) (BE.lit false))]))
def waddsz_10 : VW := (VW.done ((BE.not (BE.fn 4 (AL.lst (LE.take (LE.rom 0) (IE.lit 0)) AL.nil))) :: pcaddsz_2) (some [(G.b (BE.lit true) (BE.lit false))]))
def vwaddsz : List VW := [waddsz_0, waddsz_1, waddsz_2, waddsz_3, waddsz_4, waddsz_5, waddsz_6, waddsz_7, waddsz_8, waddsz_9, waddsz_10]
end
theorem vcaddsz_0 : VD TTaddsz (st0 cAdds0) waddsz_0 := by
  intro ρ kn hp
  exact all_nil
theorem vcaddsz_1 : VD TTaddsz (st0 cAdds0) waddsz_1 := by
  intro ρ kn hp
  have hF : ρ.z.F = wt.Φ := kn.F
  simp only [h_nil, h_cons, d_le, d_eq, d_not, d_var, d_lit, d_cel, d_leq, d_fn, d_and, d_iff, IE.den, LE.den, AL.den, lenV, true_and, and_true, pcaddsz_6, pcaddsz_3, pcaddsz_1, pcaddsz_0, hF, pi2, pi5, pi6, pi7, pb1, pb2, pb4, pl4, pl6, pl8] at hp
  obtain ⟨p1, p2, p3, p4, p5, p6⟩ := hp
  exfalso
  have t0 : (ρ.z.rl 0).take (0 : Int).toNat = [] := rfl
  simp only [t0] at *
  have n0 : ∀ s, clampK .i64 ((findN ([] : LV) s ([] : LV).length : Nat) : Int) = 0 := fun s => rfl
  have q0 : queueL ([] : LV) = true := rfl
  simp only [n0] at *
  first | omega | exact absurd q0 (by assumption)
theorem vcaddsz_2 : VD TTaddsz (st0 cAdds0) waddsz_2 := by
  intro ρ kn hp
  have hF : ρ.z.F = wt.Φ := kn.F
  simp only [h_nil, h_cons, d_le, d_eq, d_not, d_var, d_lit, d_cel, d_leq, d_fn, d_and, d_iff, IE.den, LE.den, AL.den, lenV, true_and, and_true, pcaddsz_8, pcaddsz_7, pcaddsz_3, pcaddsz_1, pcaddsz_0, hF, pi2, pi5, pi6, pi7, pb1, pb2, pb4, pl4, pl6, pl8] at hp
  obtain ⟨p1, p2, p3, p4, p5, p6, p7⟩ := hp
  exfalso
  have t0 : (ρ.z.rl 0).take (0 : Int).toNat = [] := rfl
  simp only [t0] at *
  have n0 : ∀ s, clampK .i64 ((findN ([] : LV) s ([] : LV).length : Nat) : Int) = 0 := fun s => rfl
  have q0 : queueL ([] : LV) = true := rfl
  simp only [n0] at *
  first | omega | exact absurd q0 (by assumption)
theorem vcaddsz_3 : VD TTaddsz (st0 cAdds0) waddsz_3 := by
  intro ρ kn hp
  have hF : ρ.z.F = wt.Φ := kn.F
  simp only [h_nil, h_cons, d_le, d_eq, d_not, d_var, d_lit, d_cel, d_leq, d_fn, d_and, d_iff, IE.den, LE.den, AL.den, lenV, true_and, and_true, pcaddsz_8, pcaddsz_7, pcaddsz_3, pcaddsz_1, pcaddsz_0, hF, pi2, pi5, pi6, pi7, pb1, pb2, pb4, pl4, pl6, pl8] at hp
  obtain ⟨p1, p2, p3, p4, p5, p6, p7⟩ := hp
  exfalso
  have t0 : (ρ.z.rl 0).take (0 : Int).toNat = [] := rfl
  simp only [t0] at *
  have n0 : ∀ s, clampK .i64 ((findN ([] : LV) s ([] : LV).length : Nat) : Int) = 0 := fun s => rfl
  have q0 : queueL ([] : LV) = true := rfl
  simp only [n0] at *
  first | omega | exact absurd q0 (by assumption)
theorem vcaddsz_4 : VD TTaddsz (st0 cAdds0) waddsz_4 := by
  intro ρ kn hp
  have hF : ρ.z.F = wt.Φ := kn.F
  simp only [h_nil, h_cons, d_le, d_eq, d_not, d_var, d_lit, d_cel, d_leq, d_fn, d_and, d_iff, IE.den, LE.den, AL.den, lenV, true_and, and_true, pcaddsz_9, pcaddsz_7, pcaddsz_3, pcaddsz_1, pcaddsz_0, hF, pi2, pi5, pi6, pi7, pb1, pb2, pb4, pl4, pl6, pl8] at hp
  obtain ⟨p1, p2, p3, p4, p5, p6, p7, p8, p9⟩ := hp
  exfalso
  have t0 : (ρ.z.rl 0).take (0 : Int).toNat = [] := rfl
  simp only [t0] at *
  have n0 : ∀ s, clampK .i64 ((findN ([] : LV) s ([] : LV).length : Nat) : Int) = 0 := fun s => rfl
  have q0 : queueL ([] : LV) = true := rfl
  simp only [n0] at *
  first | omega | exact absurd q0 (by assumption)
theorem vcaddsz_5 : VD TTaddsz (st0 cAdds0) waddsz_5 := by
  intro ρ kn hp
  have hF : ρ.z.F = wt.Φ := kn.F
  simp only [h_nil, h_cons, d_le, d_eq, d_not, d_var, d_lit, d_cel, d_leq, d_fn, d_and, d_iff, IE.den, LE.den, AL.den, lenV, true_and, and_true, pcaddsz_9, pcaddsz_7, pcaddsz_3, pcaddsz_1, pcaddsz_0, hF, pi2, pi5, pi6, pi7, pb1, pb2, pb4, pl4, pl6, pl8] at hp
  obtain ⟨p1, p2, p3, p4, p5, p6, p7, p8, p9⟩ := hp
  exfalso
  have t0 : (ρ.z.rl 0).take (0 : Int).toNat = [] := rfl
  simp only [t0] at *
  have n0 : ∀ s, clampK .i64 ((findN ([] : LV) s ([] : LV).length : Nat) : Int) = 0 := fun s => rfl
  have q0 : queueL ([] : LV) = true := rfl
  simp only [n0] at *
  first | omega | exact absurd q0 (by assumption)
theorem vcaddsz_6 : VD TTaddsz (st0 cAdds0) waddsz_6 := by
  intro ρ kn hp
  have hF : ρ.z.F = wt.Φ := kn.F
  simp only [h_nil, h_cons, d_le, d_eq, d_not, d_var, d_lit, d_cel, d_leq, d_fn, d_and, d_iff, IE.den, LE.den, AL.den, lenV, true_and, and_true, pcaddsz_4, pcaddsz_1, pcaddsz_0, hF, pi2, pi5, pi6, pi7, pb1, pb2, pb4, pl4, pl6, pl8] at hp
  obtain ⟨p1, p2, p3⟩ := hp
  exfalso
  have t0 : (ρ.z.rl 0).take (0 : Int).toNat = [] := rfl
  simp only [t0] at *
  have n0 : ∀ s, clampK .i64 ((findN ([] : LV) s ([] : LV).length : Nat) : Int) = 0 := fun s => rfl
  have q0 : queueL ([] : LV) = true := rfl
  simp only [n0] at *
  first | omega | exact absurd q0 (by assumption)
theorem vcaddsz_7 : VD TTaddsz (st0 cAdds0) waddsz_7 := by
  intro ρ kn hp
  have hF : ρ.z.F = wt.Φ := kn.F
  simp only [h_nil, h_cons, d_le, d_eq, d_not, d_var, d_lit, d_cel, d_leq, d_fn, d_and, d_iff, IE.den, LE.den, AL.den, lenV, true_and, and_true, pcaddsz_4, pcaddsz_1, pcaddsz_0, hF, pi2, pi5, pi6, pi7, pb1, pb2, pb4, pl4, pl6, pl8] at hp
  obtain ⟨p1, p2, p3⟩ := hp
  exfalso
  have t0 : (ρ.z.rl 0).take (0 : Int).toNat = [] := rfl
  simp only [t0] at *
  have n0 : ∀ s, clampK .i64 ((findN ([] : LV) s ([] : LV).length : Nat) : Int) = 0 := fun s => rfl
  have q0 : queueL ([] : LV) = true := rfl
  simp only [n0] at *
  first | omega | exact absurd q0 (by assumption)
theorem vcaddsz_8 : VD TTaddsz (st0 cAdds0) waddsz_8 := by
  intro ρ kn hp
  exact all_nil
theorem vcaddsz_9 : VD TTaddsz (st0 cAdds0) waddsz_9 := by
  intro ρ kn hp
  have hF : ρ.z.F = wt.Φ := kn.F
  simp only [h_nil, h_cons, d_le, d_eq, d_not, d_var, d_lit, d_cel, d_leq, d_fn, d_and, d_iff, IE.den, LE.den, AL.den, lenV, true_and, and_true, pcaddsz_5, pcaddsz_2, pcaddsz_0, hF, pi2, pi5, pi6, pi7, pb1, pb2, pb4, pl4, pl6, pl8] at hp
  obtain ⟨p1, p2, p3, p4, p5⟩ := hp
  exfalso
  have t0 : (ρ.z.rl 0).take (0 : Int).toNat = [] := rfl
  simp only [t0] at *
  have n0 : ∀ s, clampK .i64 ((findN ([] : LV) s ([] : LV).length : Nat) : Int) = 0 := fun s => rfl
  have q0 : queueL ([] : LV) = true := rfl
  simp only [n0] at *
  first | omega | exact absurd q0 (by assumption)
theorem vcaddsz_10 : VD TTaddsz (st0 cAdds0) waddsz_10 := by
  intro ρ kn hp
  have hF : ρ.z.F = wt.Φ := kn.F
  simp only [h_nil, h_cons, d_le, d_eq, d_not, d_var, d_lit, d_cel, d_leq, d_fn, d_and, d_iff, IE.den, LE.den, AL.den, lenV, true_and, and_true, pcaddsz_2, pcaddsz_0, hF, pi2, pi5, pi6, pi7, pb1, pb2, pb4, pl4, pl6, pl8] at hp
  obtain ⟨p1, p2⟩ := hp
  exfalso
  have t0 : (ρ.z.rl 0).take (0 : Int).toNat = [] := rfl
  simp only [t0] at *
  have n0 : ∀ s, clampK .i64 ((findN ([] : LV) s ([] : LV).length : Nat) : Int) = 0 := fun s => rfl
  have q0 : queueL ([] : LV) = true := rfl
  simp only [n0] at *
  first | omega | exact absurd q0 (by assumption)
theorem told_addsz : Sx.Told wt.Φ cAdds0 := told_vw (cs := [cWorks, cQueueP, cQueueR, cMayP, cMayR, cRFin, cRFout, cFindIn, cFindOut, cFindNo, cSame]) (all_cons told_works (all_cons told_queueP (all_cons told_queueR (all_cons told_mayP (all_cons told_mayR (all_cons told_rfin (all_cons told_rfout (all_cons told_findIn (all_cons told_findOut (all_cons told_findNo (all_cons told_same (all_nil)))))))))))) 20000 vwaddsz (by kernel_rfl) (by kernel_rfl) (by kernel_rfl) (post_nil rfl) (by kernel_rfl) (by kernel_rfl) (all_cons vcaddsz_0 (all_cons vcaddsz_1 (all_cons vcaddsz_2 (all_cons vcaddsz_3 (all_cons vcaddsz_4 (all_cons vcaddsz_5 (all_cons vcaddsz_6 (all_cons vcaddsz_7 (all_cons vcaddsz_8 (all_cons vcaddsz_9 (all_cons vcaddsz_10 (all_nil))))))))))))
end Go.Proofs.YteblnjgghbclpaaDoor.wt
