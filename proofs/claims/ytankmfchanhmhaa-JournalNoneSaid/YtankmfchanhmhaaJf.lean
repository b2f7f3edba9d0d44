/- Layer journal: seal's table, where a reader stands: words. No condition. -/
import Derived.Test.YtankmfchanhmhaaQo
set_option linter.unusedVariables false
set_option linter.unusedSimpArgs false
set_option linter.deprecated false
namespace Go.Proofs.Ytankmfchanhmhaa.oct
open Go Go.Proofs.Ytankmfchanhmhaa.Sx
noncomputable section
def tabE : LE := .fn 2 (.int .i64 (.lit 256) .nil)
def zerE : LE := .rep (.int .u32 (.lit 0) .nil) (.lit 256)
def rdr (c : LE) (at_ : SV) : SObj := .mix [.opq 1] c 256 .u32 [at_] 88
def atV : SV := .int .i64 (.var .i64 1)
def mFill : Mtr := ⟨61, [.ptr 1000000 1], [(1000000, rdr zerE atV)], 1001000, [], [], .tup [], [(1000000, rdr tabE atV)], 1001000, []⟩
end
end Go.Proofs.Ytankmfchanhmhaa.oct
