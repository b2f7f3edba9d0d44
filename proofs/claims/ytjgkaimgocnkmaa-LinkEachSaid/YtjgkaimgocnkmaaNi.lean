/- Layer link: the law LinkEach without stamps. No condition. -/
import Derived.Test.YtjgkaimgocnkmaaNd
set_option linter.unusedVariables false
set_option linter.unusedSimpArgs false
set_option linter.deprecated false
namespace Go.Proofs.Ytjgkaimgocnkmaa.lnk
open Go Go.Proofs.Ytjgkaimgocnkmaa.Sx
noncomputable section
abbrev TTeachz : Tab := T lnk.Φ cEach0.roms [cWorks, cStamp, cRight, cStampR, cRRight, cRTakeA, cRTakeB, cRTakeC, cRTakeD]
def pceachz_0 : List BE := [(BE.lit true)]
def pceachz_1 : List BE := ((BE.le (IE.len (LE.rom 0)) (IE.lit 100)) :: pceachz_0)
def pceachz_2 : List BE := ((BE.le (IE.len (LE.rom 1)) (IE.lit 100)) :: pceachz_1)
def pceachz_3 : List BE := ((BE.le (IE.len (LE.rom 0)) (IE.lit 0)) :: pceachz_2)
def pceachz_4 : List BE := ((BE.not (BE.le (IE.len (LE.rom 0)) (IE.lit 0))) :: pceachz_2)
def pceachz_5 : List BE := ((BE.le (IE.len (LE.rom 1)) (IE.lit 0)) :: pceachz_3)
def pceachz_6 : List BE := ((BE.not (BE.le (IE.len (LE.rom 1)) (IE.lit 0))) :: pceachz_3)
def pceachz_7 : List BE := ((BE.le (IE.len (LE.rom 1)) (IE.lit 0)) :: pceachz_4)
def pceachz_8 : List BE := ((BE.not (BE.le (IE.len (LE.rom 1)) (IE.lit 0))) :: pceachz_4)
def pceachz_9 : List BE := ((BE.le (IE.lit 1) (IE.var .i64 1)) :: pceachz_8)
def pceachz_10 : List BE := ((BE.not (BE.le (IE.lit 1) (IE.var .i64 1))) :: pceachz_8)
def pceachz_11 : List BE := ((BE.le (IE.var .i64 1) (IE.lit 1099511627776)) :: pceachz_9)
def pceachz_12 : List BE := ((BE.not (BE.le (IE.var .i64 1) (IE.lit 1099511627776))) :: pceachz_9)
def pceachz_13 : List BE := ((BE.le (IE.len (LE.rom 0)) (IE.lit 64)) :: pceachz_11)
def pceachz_14 : List BE := ((BE.not (BE.le (IE.len (LE.rom 0)) (IE.lit 64))) :: pceachz_11)
def pceachz_15 : List BE := ((BE.eq (IE.len (LE.rom 1)) (IE.len (LE.rom 0))) :: pceachz_13)
def pceachz_16 : List BE := ((BE.not (BE.eq (IE.len (LE.rom 1)) (IE.len (LE.rom 0)))) :: pceachz_13)
def pceachz_17 : List BE := ((BE.fn 1 (AL.lst (LE.rom 0) AL.nil)) :: pceachz_15)
def pceachz_18 : List BE := ((BE.not (BE.fn 1 (AL.lst (LE.rom 0) AL.nil))) :: pceachz_15)
def pceachz_19 : List BE := ((BE.fn 2 (AL.lst (LE.rom 1) AL.nil)) :: pceachz_17)
def pceachz_20 : List BE := ((BE.not (BE.fn 2 (AL.lst (LE.rom 1) AL.nil))) :: pceachz_17)
def pceachz_21 : List BE := ((BE.le (IE.lit 0) (IE.var .i64 2)) :: pceachz_19)
def pceachz_22 : List BE := ((BE.not (BE.le (IE.lit 0) (IE.var .i64 2))) :: pceachz_19)
def pceachz_23 : List BE := ((BE.le (IE.len (LE.rom 0)) (IE.var .i64 2)) :: pceachz_21)
def pceachz_24 : List BE := ((BE.not (BE.le (IE.len (LE.rom 0)) (IE.var .i64 2))) :: pceachz_21)
def weachz_0 : VW := (VW.done ((BE.le (IE.lit 1) (IE.var .i64 3)) :: pceachz_5) (some []))
def weachz_1 : VW := (VW.done ((BE.not (BE.le (IE.lit 1) (IE.var .i64 3))) :: pceachz_5) (some []))
def weachz_2 : VW := (VW.done ((BE.le (IE.lit 1) (IE.var .i64 3)) :: pceachz_6) (some []))
def weachz_3 : VW := (VW.done ((BE.not (BE.le (IE.lit 1) (IE.var .i64 3))) :: pceachz_6) (some []))
def weachz_4 : VW := (VW.done ((BE.le (IE.lit 1) (IE.var .i64 3)) :: pceachz_7) (some []))
def weachz_5 : VW := (VW.done ((BE.not (BE.le (IE.lit 1) (IE.var .i64 3))) :: pceachz_7) (some []))
def weachz_6 : VW := (VW.done ((BE.le (IE.lit 1) (IE.var .i64 3)) :: pceachz_23) (some []))
def weachz_7 : VW := (VW.done ((BE.not (BE.le (IE.lit 1) (IE.var .i64 3))) :: pceachz_23) (some []))
def weachz_8 : VW := (VW.done ((BE.le (IE.lit 1) (IE.var .i64 3)) :: pceachz_24) (some []))
def weachz_9 : VW := (VW.done ((BE.not (BE.le (IE.lit 1) (IE.var .i64 3))) :: pceachz_24) (some []))
def weachz_10 : VW := (VW.done ((BE.le (IE.lit 1) (IE.var .i64 3)) :: pceachz_22) (some []))
def weachz_11 : VW := (VW.done ((BE.not (BE.le (IE.lit 1) (IE.var .i64 3))) :: pceachz_22) (some []))
def weachz_12 : VW := (VW.done ((BE.le (IE.lit 1) (IE.var .i64 3)) :: pceachz_20) (some []))
def weachz_13 : VW := (VW.done ((BE.not (BE.le (IE.lit 1) (IE.var .i64 3))) :: pceachz_20) (some []))
def weachz_14 : VW := (VW.done ((BE.le (IE.lit 1) (IE.var .i64 3)) :: pceachz_18) (some []))
def weachz_15 : VW := (VW.done ((BE.not (BE.le (IE.lit 1) (IE.var .i64 3))) :: pceachz_18) (some []))
def weachz_16 : VW := (VW.done ((BE.le (IE.lit 1) (IE.var .i64 3)) :: pceachz_16) (some []))
def weachz_17 : VW := (VW.done ((BE.not (BE.le (IE.lit 1) (IE.var .i64 3))) :: pceachz_16) (some []))
def weachz_18 : VW := (VW.done ((BE.le (IE.lit 1) (IE.var .i64 3)) :: pceachz_14) (some []))
def weachz_19 : VW := (VW.done ((BE.not (BE.le (IE.lit 1) (IE.var .i64 3))) :: pceachz_14) (some []))
def weachz_20 : VW := (VW.done ((BE.le (IE.lit 1) (IE.var .i64 3)) :: pceachz_12) (some []))
def weachz_21 : VW := (VW.done ((BE.not (BE.le (IE.lit 1) (IE.var .i64 3))) :: pceachz_12) (some []))
def weachz_22 : VW := (VW.done ((BE.le (IE.lit 1) (IE.var .i64 3)) :: pceachz_10) (some []))
def weachz_23 : VW := (VW.done ((BE.not (BE.le (IE.lit 1) (IE.var .i64 3))) :: pceachz_10) (some []))
def weachz_24 : VW := (VW.done ((BE.not (BE.le (IE.len (LE.rom 1)) (IE.lit 100))) :: pceachz_1) (some []))
def weachz_25 : VW := (VW.done ((BE.not (BE.le (IE.len (LE.rom 0)) (IE.lit 100))) :: pceachz_0) (some []))
def vweachz : List VW := [weachz_0, weachz_1, weachz_2, weachz_3, weachz_4, weachz_5, weachz_6, weachz_7, weachz_8, weachz_9, weachz_10, weachz_11, weachz_12, weachz_13, weachz_14, weachz_15, weachz_16, weachz_17, weachz_18, weachz_19, weachz_20, weachz_21, weachz_22, weachz_23, weachz_24, weachz_25]
end
theorem vceachz_0 : VD TTeachz (st0 cEach0) weachz_0 := by
  intro ρ kn hp
  exact all_nil
theorem vceachz_1 : VD TTeachz (st0 cEach0) weachz_1 := by
  intro ρ kn hp
  exact all_nil
theorem vceachz_2 : VD TTeachz (st0 cEach0) weachz_2 := by
  intro ρ kn hp
  exact all_nil
theorem vceachz_3 : VD TTeachz (st0 cEach0) weachz_3 := by
  intro ρ kn hp
  exact all_nil
theorem vceachz_4 : VD TTeachz (st0 cEach0) weachz_4 := by
  intro ρ kn hp
  exact all_nil
theorem vceachz_5 : VD TTeachz (st0 cEach0) weachz_5 := by
  intro ρ kn hp
  exact all_nil
theorem vceachz_6 : VD TTeachz (st0 cEach0) weachz_6 := by
  intro ρ kn hp
  exact all_nil
theorem vceachz_7 : VD TTeachz (st0 cEach0) weachz_7 := by
  intro ρ kn hp
  exact all_nil
theorem vceachz_8 : VD TTeachz (st0 cEach0) weachz_8 := by
  intro ρ kn hp
  exact all_nil
theorem vceachz_9 : VD TTeachz (st0 cEach0) weachz_9 := by
  intro ρ kn hp
  exact all_nil
theorem vceachz_10 : VD TTeachz (st0 cEach0) weachz_10 := by
  intro ρ kn hp
  exact all_nil
theorem vceachz_11 : VD TTeachz (st0 cEach0) weachz_11 := by
  intro ρ kn hp
  exact all_nil
theorem vceachz_12 : VD TTeachz (st0 cEach0) weachz_12 := by
  intro ρ kn hp
  exact all_nil
theorem vceachz_13 : VD TTeachz (st0 cEach0) weachz_13 := by
  intro ρ kn hp
  exact all_nil
theorem vceachz_14 : VD TTeachz (st0 cEach0) weachz_14 := by
  intro ρ kn hp
  exact all_nil
theorem vceachz_15 : VD TTeachz (st0 cEach0) weachz_15 := by
  intro ρ kn hp
  exact all_nil
theorem vceachz_16 : VD TTeachz (st0 cEach0) weachz_16 := by
  intro ρ kn hp
  exact all_nil
theorem vceachz_17 : VD TTeachz (st0 cEach0) weachz_17 := by
  intro ρ kn hp
  exact all_nil
theorem vceachz_18 : VD TTeachz (st0 cEach0) weachz_18 := by
  intro ρ kn hp
  exact all_nil
theorem vceachz_19 : VD TTeachz (st0 cEach0) weachz_19 := by
  intro ρ kn hp
  exact all_nil
theorem vceachz_20 : VD TTeachz (st0 cEach0) weachz_20 := by
  intro ρ kn hp
  exact all_nil
theorem vceachz_21 : VD TTeachz (st0 cEach0) weachz_21 := by
  intro ρ kn hp
  exact all_nil
theorem vceachz_22 : VD TTeachz (st0 cEach0) weachz_22 := by
  intro ρ kn hp
  exact all_nil
theorem vceachz_23 : VD TTeachz (st0 cEach0) weachz_23 := by
  intro ρ kn hp
  exact all_nil
theorem vceachz_24 : VD TTeachz (st0 cEach0) weachz_24 := by
  intro ρ kn hp
  exact all_nil
theorem vceachz_25 : VD TTeachz (st0 cEach0) weachz_25 := by
  intro ρ kn hp
  exact all_nil
theorem told_eachz : Sx.Told lnk.Φ cEach0 := told_vw (cs := [cWorks, cStamp, cRight, cStampR, cRRight, cRTakeA, cRTakeB, cRTakeC, cRTakeD]) (all_cons told_works (all_cons told_stamp (all_cons told_right (all_cons told_stampR (all_cons told_rright (all_cons told_rtakeA (all_cons told_rtakeB (all_cons told_rtakeC (all_cons told_rtakeD (all_nil)))))))))) 6000 vweachz (by kernel_rfl) (by kernel_rfl) (by kernel_rfl) (post_nil rfl) (by kernel_rfl) (by kernel_rfl) (all_cons vceachz_0 (all_cons vceachz_1 (all_cons vceachz_2 (all_cons vceachz_3 (all_cons vceachz_4 (all_cons vceachz_5 (all_cons vceachz_6 (all_cons vceachz_7 (all_cons vceachz_8 (all_cons vceachz_9 (all_cons vceachz_10 (all_cons vceachz_11 (all_cons vceachz_12 (all_cons vceachz_13 (all_cons vceachz_14 (all_cons vceachz_15 (all_cons vceachz_16 (all_cons vceachz_17 (all_cons vceachz_18 (all_cons vceachz_19 (all_cons vceachz_20 (all_cons vceachz_21 (all_cons vceachz_22 (all_cons vceachz_23 (all_cons vceachz_24 (all_cons vceachz_25 (all_nil)))))))))))))))))))))))))))
end Go.Proofs.Ytjgkaimgocnkmaa.lnk
