/- Layer owner: contracts of the laws over lists. No condition. -/
import Derived.Test.YtepodgakaajcmaaOb
set_option linter.unusedVariables false
set_option linter.unusedSimpArgs false
set_option linter.deprecated false
namespace Go.Proofs.Ytepodgakaajcmaa.own
open Go Go.Proofs.Ytepodgakaajcmaa.Sx
noncomputable section
def sl00 : SV := .rom 0 (.lit 0) (.lit 0) none
def pX : SV := pSeek 4 5 6 7 1
def cRises : Ctr := ⟨7, [pS, sl0 0, pX], r2, [.le (.lit 1) (ln 0)], .bool (.lit true), [], 0, []⟩
def cRises0 : Ctr := ⟨7, [pS, sl00, pX], r2, [], .bool (.lit true), [], 0, []⟩
end
end Go.Proofs.Ytepodgakaajcmaa.own
