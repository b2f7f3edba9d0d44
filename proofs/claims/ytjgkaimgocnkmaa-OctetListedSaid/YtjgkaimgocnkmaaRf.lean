/- Layer octet: the law OctetListed. No condition. -/
import Derived.Test.YtjgkaimgocnkmaaRd
import Derived.Test.YtjgkaimgocnkmaaQw
set_option linter.unusedVariables false
set_option linter.unusedSimpArgs false
set_option linter.deprecated false
namespace Go.Proofs.Ytjgkaimgocnkmaa.oct
open Go Go.Proofs.Ytjgkaimgocnkmaa.Sx
noncomputable section
abbrev TTlistedR : Tab := T oct.Φ cListedR.roms [cWorks, cListR, cRListR, cSameS]
def pclistedR_0 : List BE := [(BE.lit true), (BE.fn 1 (AL.lst (LE.rom 0) (AL.int .i64 (IE.var .i64 1) AL.nil))), (BE.le (IE.lit 1) (IE.len (LE.rom 0)))]
def wlistedR_0 : VW := (VW.done ((BE.le (IE.lit 1) (IE.len (LE.fn 2 (AL.lst (LE.rom 0) (AL.int .i64 (IE.var .i64 1) AL.nil))))) :: (BE.le (IE.len (LE.fn 2 (AL.lst (LE.rom 0) (AL.int .i64 (IE.var .i64 1) AL.nil)))) (IE.lit 2000)) :: (BE.le (IE.lit 1) (IE.len (LE.fn 2 (AL.lst (LE.rom 0) (AL.int .i64 (IE.var .i64 1) AL.nil))))) :: (BE.le (IE.len (LE.fn 2 (AL.lst (LE.rom 0) (AL.int .i64 (IE.var .i64 1) AL.nil)))) (IE.lit 2000)) :: (BE.le (IE.len (LE.rom 0)) (IE.lit 2000)) :: pclistedR_0) (some []))
def wlistedR_1 : VW := (VW.done ((BE.not (BE.le (IE.len (LE.rom 0)) (IE.lit 2000))) :: pclistedR_0) (some []))
def vwlistedR : List VW := [wlistedR_0, wlistedR_1]
end
theorem vclistedR_0 : VD TTlistedR (st0 cListedR) wlistedR_0 := by
  intro ρ kn hp
  exact all_nil
theorem vclistedR_1 : VD TTlistedR (st0 cListedR) wlistedR_1 := by
  intro ρ kn hp
  exact all_nil
theorem told_listedR : Sx.Told oct.Φ cListedR := told_vw (cs := [cWorks, cListR, cRListR, cSameS]) (all_cons told_works (all_cons told_liR (all_cons told_rlR (all_cons told_sames (all_nil))))) 6000 vwlistedR (by kernel_rfl) (by kernel_rfl) (by kernel_rfl) (post_nil rfl) (by kernel_rfl) (by kernel_rfl) (all_cons vclistedR_0 (all_cons vclistedR_1 (all_nil)))
noncomputable section
abbrev TTlistedN : Tab := T oct.Φ cListedN.roms [cWorks, cListN, cRListN, cSameS]
def pclistedN_0 : List BE := [(BE.lit true), (BE.not (BE.fn 1 (AL.lst (LE.rom 0) (AL.int .i64 (IE.var .i64 1) AL.nil)))), (BE.le (IE.lit 1) (IE.len (LE.rom 0)))]
def wlistedN_0 : VW := (VW.done ((BE.le (IE.len (LE.rom 0)) (IE.lit 2000)) :: pclistedN_0) (some []))
def wlistedN_1 : VW := (VW.done ((BE.not (BE.le (IE.len (LE.rom 0)) (IE.lit 2000))) :: pclistedN_0) (some []))
def vwlistedN : List VW := [wlistedN_0, wlistedN_1]
end
theorem vclistedN_0 : VD TTlistedN (st0 cListedN) wlistedN_0 := by
  intro ρ kn hp
  exact all_nil
theorem vclistedN_1 : VD TTlistedN (st0 cListedN) wlistedN_1 := by
  intro ρ kn hp
  exact all_nil
theorem told_listedN : Sx.Told oct.Φ cListedN := told_vw (cs := [cWorks, cListN, cRListN, cSameS]) (all_cons told_works (all_cons told_liN (all_cons told_rlN (all_cons told_sames (all_nil))))) 6000 vwlistedN (by kernel_rfl) (by kernel_rfl) (by kernel_rfl) (post_nil rfl) (by kernel_rfl) (by kernel_rfl) (all_cons vclistedN_0 (all_cons vclistedN_1 (all_nil)))
noncomputable section
abbrev TTlistedz : Tab := T oct.Φ cListed0.roms [cWorks]
def wlistedz_0 : VW := (VW.done [(BE.lit true)] (some []))
def vwlistedz : List VW := [wlistedz_0]
end
theorem vclistedz_0 : VD TTlistedz (st0 cListed0) wlistedz_0 := by
  intro ρ kn hp
  exact all_nil
theorem told_listedz : Sx.Told oct.Φ cListed0 := told_vw (cs := [cWorks]) (all_cons told_works (all_nil)) 6000 vwlistedz (by kernel_rfl) (by kernel_rfl) (by kernel_rfl) (post_nil rfl) (by kernel_rfl) (by kernel_rfl) (all_cons vclistedz_0 (all_nil))
end Go.Proofs.Ytjgkaimgocnkmaa.oct
