/- Layer journal: the law JournalLong. No condition. -/
import Derived.Test.YtankmfchanhmhaaJz
set_option linter.unusedVariables false
set_option linter.unusedSimpArgs false
set_option linter.deprecated false
namespace Go.Proofs.Ytankmfchanhmhaa.oct
open Go Go.Proofs.Ytankmfchanhmhaa.Sx
noncomputable section
abbrev TTlong : Tab := TM oct.Φ cJLong.roms [cWorksJ, cSealX, cSeal] [mFill]
def pclong_0 : List BE := [(BE.lit true)]
def pclong_1 : List BE := ((BE.le (IE.lit (-1)) (IE.var .i64 1)) :: pclong_0)
def pclong_2 : List BE := ((BE.le (IE.var .i64 1) (IE.lit 1)) :: pclong_1)
def wlong_0 : VW := (VW.done ((BE.le (IE.lit 65537) (IE.add (IE.lit 65536) (IE.var .i64 1))) :: pclong_2) (some []))
def wlong_1 : VW := (VW.done ((BE.le (IE.add (IE.add (IE.lit 65536) (IE.var .i64 1)) (IE.lit 5)) (IE.len (LE.fn 3 (AL.lst (LE.rep (AL.int .u8 (IE.lit 0) AL.nil) (IE.add (IE.lit 65536) (IE.var .i64 1))) AL.nil)))) :: (BE.le (IE.len (LE.fn 3 (AL.lst (LE.rep (AL.int .u8 (IE.lit 0) AL.nil) (IE.add (IE.lit 65536) (IE.var .i64 1))) AL.nil))) (IE.add (IE.add (IE.lit 65536) (IE.var .i64 1)) (IE.lit 14))) :: (BE.not (BE.le (IE.lit 65537) (IE.add (IE.lit 65536) (IE.var .i64 1)))) :: pclong_2) (some []))
def wlong_2 : VW := (VW.done ((BE.not (BE.le (IE.var .i64 1) (IE.lit 1))) :: pclong_1) (some []))
def wlong_3 : VW := (VW.done ((BE.not (BE.le (IE.lit (-1)) (IE.var .i64 1))) :: pclong_0) (some []))
def vwlong : List VW := [wlong_0, wlong_1, wlong_2, wlong_3]
end
theorem vclong_0 : VD TTlong (st0 cJLong) wlong_0 := by
  intro ρ kn hp
  exact all_nil
theorem vclong_1 : VD TTlong (st0 cJLong) wlong_1 := by
  intro ρ kn hp
  exact all_nil
theorem vclong_2 : VD TTlong (st0 cJLong) wlong_2 := by
  intro ρ kn hp
  exact all_nil
theorem vclong_3 : VD TTlong (st0 cJLong) wlong_3 := by
  intro ρ kn hp
  exact all_nil
theorem told_long : Sx.Told oct.Φ cJLong := told_vwM (cs := [cWorksJ, cSealX, cSeal]) (ms' := [mFill]) (all_cons told_works (all_cons told_sealx (all_cons told_seal (all_nil)))) (all_cons told_mfill (all_nil)) 9000 vwlong (by kernel_rfl) (by kernel_rfl) (by kernel_rfl) (post_nil rfl) (by kernel_rfl) (by kernel_rfl) (all_cons vclong_0 (all_cons vclong_1 (all_cons vclong_2 (all_cons vclong_3 (all_nil)))))
end Go.Proofs.Ytankmfchanhmhaa.oct
