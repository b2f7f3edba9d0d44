/- Layer octet: the law OctetTexts. No condition. -/
import Derived.Test.YtjgkaimgocnkmaaTb
import Derived.Test.YtjgkaimgocnkmaaTc
set_option linter.unusedVariables false
set_option linter.unusedSimpArgs false
set_option linter.deprecated false
namespace Go.Proofs.Ytjgkaimgocnkmaa.oct
open Go Go.Proofs.Ytjgkaimgocnkmaa.Sx
noncomputable section
abbrev TTtexts : Tab := T oct.Φ cTexts.roms [cWorks, cText, cRText, cReadT, cRReadT]
def pctexts_0 : List BE := [(BE.lit true), (BE.le (IE.lit 1) (IE.len (LE.rom 0)))]
def pctexts_1 : List BE := ((BE.le (IE.len (LE.rom 0)) (IE.lit 2000)) :: pctexts_0)
def wtexts_0 : VW := (VW.done ((BE.le (IE.lit 0) (IE.fn .i64 8 (AL.lst (LE.rom 0) AL.nil))) :: (BE.le (IE.fn .i64 8 (AL.lst (LE.rom 0) AL.nil)) (IE.len (LE.rom 0))) :: (BE.le (IE.len (LE.var 1)) (IE.lit 2000)) :: pctexts_1) (some []))
def wtexts_1 : VW := (VW.done ((BE.not (BE.le (IE.len (LE.var 1)) (IE.lit 2000))) :: pctexts_1) (some []))
def wtexts_2 : VW := (VW.done ((BE.not (BE.le (IE.len (LE.rom 0)) (IE.lit 2000))) :: pctexts_0) (some []))
def vwtexts : List VW := [wtexts_0, wtexts_1, wtexts_2]
end
theorem vctexts_0 : VD TTtexts (st0 cTexts) wtexts_0 := by
  intro ρ kn hp
  exact all_nil
theorem vctexts_1 : VD TTtexts (st0 cTexts) wtexts_1 := by
  intro ρ kn hp
  exact all_nil
theorem vctexts_2 : VD TTtexts (st0 cTexts) wtexts_2 := by
  intro ρ kn hp
  exact all_nil
theorem told_texts : Sx.Told oct.Φ cTexts := told_vw (cs := [cWorks, cText, cRText, cReadT, cRReadT]) (all_cons told_works (all_cons told_text (all_cons told_rtext (all_cons told_readt (all_cons told_rreadt (all_nil)))))) 6000 vwtexts (by kernel_rfl) (by kernel_rfl) (by kernel_rfl) (post_nil rfl) (by kernel_rfl) (by kernel_rfl) (all_cons vctexts_0 (all_cons vctexts_1 (all_cons vctexts_2 (all_nil))))
noncomputable section
abbrev TTtextsz : Tab := T oct.Φ cTexts0.roms [cWorks, cText, cRText, cReadT, cRReadT]
def pctextsz_0 : List BE := [(BE.lit true)]
def wtextsz_0 : VW := (VW.done ((BE.le (IE.len (LE.var 1)) (IE.lit 2000)) :: pctextsz_0) (some []))
def wtextsz_1 : VW := (VW.done ((BE.not (BE.le (IE.len (LE.var 1)) (IE.lit 2000))) :: pctextsz_0) (some []))
def vwtextsz : List VW := [wtextsz_0, wtextsz_1]
end
theorem vctextsz_0 : VD TTtextsz (st0 cTexts0) wtextsz_0 := by
  intro ρ kn hp
  exact all_nil
theorem vctextsz_1 : VD TTtextsz (st0 cTexts0) wtextsz_1 := by
  intro ρ kn hp
  exact all_nil
theorem told_textsz : Sx.Told oct.Φ cTexts0 := told_vw (cs := [cWorks, cText, cRText, cReadT, cRReadT]) (all_cons told_works (all_cons told_text (all_cons told_rtext (all_cons told_readt (all_cons told_rreadt (all_nil)))))) 9000 vwtextsz (by kernel_rfl) (by kernel_rfl) (by kernel_rfl) (post_nil rfl) (by kernel_rfl) (by kernel_rfl) (all_cons vctextsz_0 (all_cons vctextsz_1 (all_nil)))
end Go.Proofs.Ytjgkaimgocnkmaa.oct
