/- Layer journal: the law JournalNone. No condition. -/
import Derived.Test.YtankmfchanhmhaaJx
set_option linter.unusedVariables false
set_option linter.unusedSimpArgs false
set_option linter.deprecated false
namespace Go.Proofs.Ytankmfchanhmhaa.oct
open Go Go.Proofs.Ytankmfchanhmhaa.Sx
theorem told_sealx : Sx.Told oct.Φ cSealX := told_auto (cs := []) (all_nil) 900 (by kernel_rfl) (by kernel_rfl) (by kernel_rfl) (post_nil rfl) (by kernel_rfl) (by kernel_rfl)
noncomputable section
abbrev TTnone : Tab := TM oct.Φ cNone.roms [cWorksJ] [mFill]
def pcnone_0 : List BE := [(BE.lit true), (BE.le (IE.lit 1) (IE.len (LE.rom 0)))]
def pcnone_1 : List BE := ((BE.le (IE.len (LE.rom 0)) (IE.lit 100)) :: pcnone_0)
def pcnone_2 : List BE := ((BE.not (BE.eq (IE.var .i64 1) (IE.lit 0))) :: pcnone_1)
def wnone_0 : VW := (VW.done ((BE.eq (IE.var .i64 1) (IE.lit 0)) :: pcnone_1) (some []))
def wnone_1 : VW := (VW.done ((BE.eq (IE.var .i64 1) (IE.lit 1)) :: pcnone_2) (some []))
def wnone_2 : VW := (VW.done ((BE.not (BE.eq (IE.var .i64 1) (IE.lit 1))) :: pcnone_2) (some []))
def wnone_3 : VW := (VW.done ((BE.not (BE.le (IE.len (LE.rom 0)) (IE.lit 100))) :: pcnone_0) (some []))
def vwnone : List VW := [wnone_0, wnone_1, wnone_2, wnone_3]
end
theorem vcnone_0 : VD TTnone (st0 cNone) wnone_0 := by
  intro ρ kn hp
  exact all_nil
theorem vcnone_1 : VD TTnone (st0 cNone) wnone_1 := by
  intro ρ kn hp
  exact all_nil
theorem vcnone_2 : VD TTnone (st0 cNone) wnone_2 := by
  intro ρ kn hp
  exact all_nil
theorem vcnone_3 : VD TTnone (st0 cNone) wnone_3 := by
  intro ρ kn hp
  exact all_nil
theorem told_none : Sx.Told oct.Φ cNone := told_vwM (cs := [cWorksJ]) (ms' := [mFill]) (all_cons told_works (all_nil)) (all_cons told_mfill (all_nil)) 9000 vwnone (by kernel_rfl) (by kernel_rfl) (by kernel_rfl) (post_nil rfl) (by kernel_rfl) (by kernel_rfl) (all_cons vcnone_0 (all_cons vcnone_1 (all_cons vcnone_2 (all_cons vcnone_3 (all_nil)))))
noncomputable section
abbrev TTnonez : Tab := TM oct.Φ cNone0.roms [cWorksJ] [mFill]
def pcnonez_0 : List BE := [(BE.lit true)]
def pcnonez_1 : List BE := ((BE.not (BE.eq (IE.var .i64 1) (IE.lit 0))) :: pcnonez_0)
def wnonez_0 : VW := (VW.done ((BE.eq (IE.var .i64 1) (IE.lit 0)) :: pcnonez_0) (some []))
def wnonez_1 : VW := (VW.done ((BE.eq (IE.var .i64 1) (IE.lit 1)) :: pcnonez_1) (some []))
def wnonez_2 : VW := (VW.done ((BE.not (BE.eq (IE.var .i64 1) (IE.lit 1))) :: pcnonez_1) (some []))
def vwnonez : List VW := [wnonez_0, wnonez_1, wnonez_2]
end
theorem vcnonez_0 : VD TTnonez (st0 cNone0) wnonez_0 := by
  intro ρ kn hp
  exact all_nil
theorem vcnonez_1 : VD TTnonez (st0 cNone0) wnonez_1 := by
  intro ρ kn hp
  exact all_nil
theorem vcnonez_2 : VD TTnonez (st0 cNone0) wnonez_2 := by
  intro ρ kn hp
  exact all_nil
theorem told_nonez : Sx.Told oct.Φ cNone0 := told_vwM (cs := [cWorksJ]) (ms' := [mFill]) (all_cons told_works (all_nil)) (all_cons told_mfill (all_nil)) 9000 vwnonez (by kernel_rfl) (by kernel_rfl) (by kernel_rfl) (post_nil rfl) (by kernel_rfl) (by kernel_rfl) (all_cons vcnonez_0 (all_cons vcnonez_1 (all_cons vcnonez_2 (all_nil))))
end Go.Proofs.Ytankmfchanhmhaa.oct
