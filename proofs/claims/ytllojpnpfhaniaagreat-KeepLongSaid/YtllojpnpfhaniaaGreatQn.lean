/- Layer seal: frames, words. No condition. -/
import Derived.Test.YtllojpnpfhaniaaGreatQe
import Derived.Test.YtllojpnpfhaniaaGreatQm
set_option linter.unusedVariables false
set_option linter.unusedSimpArgs false
set_option linter.deprecated false
namespace Go.Proofs.YtllojpnpfhaniaaGreat.oct
open Go Go.Proofs.YtllojpnpfhaniaaGreat.Sx
noncomputable section
def sealE : LE := .fn 3 rdA
def rowSe : SObj := .rowl sealE (.len sealE) kB 5 1 1
def resSe : SV := .sll 0 1 1 (.lit 0) (.len sealE) none
def postSe : List BE := [.le (.add (ln 0) (.lit 5)) (.len sealE), .le (.len sealE) (.add (ln 0) (.lit 14))]
def cSeal : Ctr := ⟨58, [sl0 0], rB, [.le (ln 0) (.lit 65536)], .tup [resSe, .int .i64 (.lit 0)], [(0, rowSe)], 2, postSe⟩
def cSealX : Ctr := ⟨58, [sl0 0], rB, [.le (.lit 65537) (ln 0)], .tup [.const (.slice none 0 0), .int .i64 (.lit 3)], [], 0, []⟩
def cRSeal : Ctr := ⟨15, [sl0 0], rB, [.le (ln 0) (.lit 65536)], .tup [resSe, .int .i64 (.lit 0)], [(0, rowSe)], 2, postSe⟩
def cRSealX : Ctr := ⟨15, [sl0 0], rB, [.le (.lit 65537) (ln 0)], .tup [.const (.slice none 0 0), .int .i64 (.lit 3)], [], 0, []⟩
end
end Go.Proofs.YtllojpnpfhaniaaGreat.oct
