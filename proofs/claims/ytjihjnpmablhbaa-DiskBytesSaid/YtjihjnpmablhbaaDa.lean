/- Layer disk: words. No condition. -/
import Derived.Test.YtjihjnpmablhbaaSw
set_option linter.unusedVariables false
set_option linter.unusedSimpArgs false
set_option linter.deprecated false
namespace Go.Proofs.Ytjihjnpmablhbaa.dsk
open Go Go.Proofs.Ytjihjnpmablhbaa.Sx
noncomputable section
def iv (n : Nat) : SV := .int .i64 (.var .i64 n)
def xv (n : Nat) : IE := .var .i64 n
def Φ : Fns := ⟨fun _ _ => 0, fun _ _ => false, fun _ _ => [], []⟩
def kB : List CK := [.int .u8]
def rB : Roms := [(0, (1, kB))]
def ln (r : Nat) : IE := .len (.rom r)
def sl0 (r : Nat) : SV := .rom r (.lit 0) (.len (.rom r)) none
def sl00 : SV := .rom 0 (.lit 0) (.lit 0) none
def cWorks : Ctr := ⟨9, [], [], [], .bool (.lit true), [], 0, []⟩
def cBytes1 : Ctr := ⟨5, [sl0 0, .int .i64 (.lit 1), iv 2], rB, [.le (.lit 1) (ln 0)], .bool (.lit true), [], 0, []⟩
def cBytes0 : Ctr := ⟨5, [sl0 0, .int .i64 (.lit 0), iv 2], rB, [.le (.lit 1) (ln 0)], .bool (.lit true), [], 0, []⟩
def cBytesA : Ctr := ⟨5, [sl0 0, iv 1, iv 2], rB, [.le (.lit 1) (ln 0), .le (.lit 2) (xv 1)], .bool (.lit true), [], 0, []⟩
def cBytesB : Ctr := ⟨5, [sl0 0, iv 1, iv 2], rB, [.le (.lit 1) (ln 0), .le (xv 1) (.lit (-1))], .bool (.lit true), [], 0, []⟩
def cBytesZ : Ctr := ⟨5, [sl00, iv 1, iv 2], rB, [], .bool (.lit true), [], 0, []⟩
end
theorem odd_ok : OddOk Φ := fun n a h => Typed.nil _
end Go.Proofs.Ytjihjnpmablhbaa.dsk
