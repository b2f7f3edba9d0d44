/- Layer call: the laws' contracts. No condition. -/
import Derived.Test.YthenenacmiiphaaCr
set_option linter.unusedVariables false
set_option linter.unusedSimpArgs false
set_option linter.deprecated false
namespace Go.Proofs.Ythenenacmiiphaa.oct
open Go Go.Proofs.Ythenenacmiiphaa.Sx
noncomputable section
def one0 : List BE := [.le (.lit 1) (ln 0)]
def cLReads : Ctr := ⟨8, [shp, sl0 0], rB, one0, .bool (.lit true), [], 0, []⟩
def cLReads0 : Ctr := ⟨8, [shp, sl00], rB, [], .bool (.lit true), [], 0, []⟩
def cLBytes : Ctr := ⟨7, [shp, askV, sl0 0], rB, one0, .bool (.lit true), [], 0, []⟩
def cLBytes0 : Ctr := ⟨7, [shp, askV, sl00], rB, [], .bool (.lit true), [], 0, []⟩
def cLAns : Ctr := ⟨9, [shp, ansV, sl0 0], rB, one0, .bool (.lit true), [], 0, []⟩
def cLAns0 : Ctr := ⟨9, [shp, ansV, sl00], rB, [], .bool (.lit true), [], 0, []⟩
def cLEach : Ctr := ⟨10, [shp, sl0 0, iv 4], rB, one0, .bool (.lit true), [], 0, []⟩
def cLEach0 : Ctr := ⟨10, [shp, sl00, iv 4], rB, [], .bool (.lit true), [], 0, []⟩
end
end Go.Proofs.Ythenenacmiiphaa.oct
