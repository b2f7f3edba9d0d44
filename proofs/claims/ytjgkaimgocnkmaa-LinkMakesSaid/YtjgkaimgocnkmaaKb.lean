/- Layer link: templates. No condition. -/
import Derived.Test.YtjgkaimgocnkmaaKa
set_option linter.unusedVariables false
set_option linter.unusedSimpArgs false
set_option linter.deprecated false
namespace Go.Proofs.Ytjgkaimgocnkmaa.link
open Go Go.Proofs.Ytjgkaimgocnkmaa.Sx
noncomputable section
def inRow (n : Nat) (len : IE) : List BE := [.le (.lit 0) (xv n), .le (xv n) len]
def ln (r : Nat) : IE := .len (.rom r)
def st (c : Ctr) : Cfg := startF c.f c.pat [.lit true]
def tAll (f g : Nat) : Cfg := { top := ⟨f, over (opqS 10000 18) [(1, .func (.func g) [] []), (7, sl0 0), (8, .int .i64 (ln 0)), (9, iv 1001)], ogt (loopTodo (bodyOf (T Φ [] []) f) 0), [], false, none⟩, rest := [], heap := [], next := 0, pc := .lit true :: inRow 1001 (ln 0) }
def tmO : List (Nat × Cfg) := [(0, st cAllO), (1, tAll 88 89)]
def tmI : List (Nat × Cfg) := [(0, st cAllI), (1, tAll 91 92)]
def selO : Sel := [(88, 1, 0, 1)]
def selI : Sel := [(91, 1, 0, 1)]
def tRR : Cfg := { top := ⟨43, over (opqS 10000 67) [(1, .ptr 0 0), (3, iv 1001)], ogt (loopTodo (bodyOf (T Φ [] []) 43) 0), [], false, none⟩, rest := [], heap := [(0, .cells [iv 1, sl0 0, sl0 1] 68)], next := 1, pc := .lit true :: .le (.lit 1) (xv 1) :: .le (xv 1) (.lit 1099511627776) :: .le (.lit 1) (ln 0) :: .le (ln 0) (.lit 64) :: .eq (ln 1) (ln 0) :: inRow 1001 (ln 0) }
def tmRR : List (Nat × Cfg) := [(0, st cRefRight), (1, tRR)]
def selRR : Sel := [(43, 1, 0, 1)]
def tSm (s id : Nat) (l : IE) : Cfg := { top := ⟨47, over (opqS 10000 66) [(2, .ptr 0 0), (3, .ptr 1 0), (s, iv 1001)], ogt (atTodo (bodyOf (T Φ [] []) 47) id), [], false, none⟩, rest := [], heap := [(1, .cells [iv 2, sl0 2, sl0 3] 68), (0, .cells [iv 1, sl0 0, sl0 1] 68)], next := 2, pc := .lit true :: .eq (xv 1) (xv 2) :: .eq (ln 0) (ln 2) :: .eq (ln 1) (ln 3) :: inRow 1001 l }
def tmSm : List (Nat × Cfg) := [(0, st cSame), (1, tSm 5 4 (ln 0)), (2, tSm 6 9 (ln 1))]
def selSm : Sel := [(47, 1004, 0, 1), (47, 1009, 0, 2)]
def TO : Tab := T Φ rO [cOut]
def TI : Tab := T Φ rI [cIn]
def TR : Tab := T Φ r2 [cRefStamp]
def TS : Tab := T Φ r4 []
end
end Go.Proofs.Ytjgkaimgocnkmaa.link
