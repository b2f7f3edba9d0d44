/- Layer octet: one number behind the other. No condition. -/
import Derived.Test.YtjgkaimgocnkmaaTa
set_option linter.unusedVariables false
set_option linter.unusedSimpArgs false
set_option linter.deprecated false
namespace Go.Proofs.Ytjgkaimgocnkmaa.oct
open Go Go.Proofs.Ytjgkaimgocnkmaa.Sx
noncomputable section
/-- Where the numbers begin. -/
def posN (R : LV) : Nat → Nat
  | 0 => 0
  | m + 1 => posN R m + (rdN (R.drop (posN R m))).toNat
def cEach : Ctr := ⟨8, [sl0 0, iv 1], rB, [.le (.lit 1) (ln 0)], .bool (.lit true), [], 0, []⟩
def cEach0 : Ctr := ⟨8, [sl00, iv 1], rB, [.not (.eq (.fn .i64 5 (.lst (.take (.rom 0) (.lit 0)) .nil)) (.lit 0))], .bool (.lit true), [], 0, []⟩
end
end Go.Proofs.Ytjgkaimgocnkmaa.oct
