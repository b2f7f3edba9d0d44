/- Layer octet: the laws' contracts. No condition. -/
import Derived.Test.YtjgkaimgocnkmaaQh
import Derived.Test.YtjgkaimgocnkmaaQw
set_option linter.unusedVariables false
set_option linter.unusedSimpArgs false
set_option linter.deprecated false
namespace Go.Proofs.Ytjgkaimgocnkmaa.oct
open Go Go.Proofs.Ytjgkaimgocnkmaa.Sx
noncomputable section
def cHolds : Ctr := ⟨9, [uv 1, uv 2, .agg [iv 3, iv 4]], [], [], .bool (.lit true), [], 0, []⟩
def cReads : Ctr := ⟨4, [sl0 0], rB, [.le (.lit 1) (ln 0)], .bool (.lit true), [], 0, []⟩
def cReads0 : Ctr := ⟨4, [sl00], rB, [], .bool (.lit true), [], 0, []⟩
def cNumbers : Ctr := ⟨3, [uv 1, iv 2, sl0 0], rB, [.le (.lit 1) (ln 0)], .bool (.lit true), [], 0, []⟩
def cNumbers0 : Ctr := ⟨3, [uv 1, iv 2, sl00], rB, [], .bool (.lit true), [], 0, []⟩
end
end Go.Proofs.Ytjgkaimgocnkmaa.oct
