/- Templates of the law EpochHolds. No condition. -/
import Derived.Test.YtjgkaimgocnkmabSq
import Derived.Test.YtjgkaimgocnkmabSc3
set_option linter.unusedVariables false
namespace Go.Proofs.Ytjgkaimgocnkmab.epochHolds
open Go Go.Proofs.Ytjgkaimgocnkmab.Sx
noncomputable section
def rom : List (Nat × (Nat × List Col)) := [(0, (3, [.bool 0, .int .i64 1, .int .i64 2]))]
def T : Tab := tab orW rom
def B : Code := bodyOf T 11
def args : List SV := [.agg [iv 1, iv 2, iv 3], .agg [iv 4, iv 5, iv 6, iv 7, iv 8, iv 9], .rom 0 (.lit 0) (.rlen 0)]
def shPc : List BE := [.le (.rlen 0) (.lit 60), .le (xv 3) (.lit 4), .le (.lit 1) (xv 3), .le (xv 2) (.lit 8), .le (.lit 1) (xv 2), .le (xv 1) (.lit 64), .le (.lit 1) (xv 1)]
def startC (pc : List BE) : Cfg := match T.fn.get 11 with
  | some F => Sx.start F B 11 args pc
  | none => ⟨⟨0, [], [], [], false, none⟩, [], [], 0, []⟩
/-- Less, the same, more. -/
def ord3 (x y : IE) : Nat → List BE
  | 0 => [.not (.le y x)]
  | 1 => [.le y x, .le x y]
  | _ => [.not (.le x y)]
def pc0 (i : Nat) : List BE := .lit true :: ord3 (xv 4) (xv 6) (i / 3) ++ ord3 (xv 6) (xv 8) (i % 3)
def S (i : Nat) : Cfg := startC (pc0 i)
def C1 : Cfg := { top := ⟨11, over (opqS 10000 181) [(2, .rom 0 (.lit 0) (.rlen 0)), (3, .ptr 0 0), (4, .ptr 1 0)], ogt (atTodo B 6), [], false, none⟩, rest := [], heap := [(0, .cells [iv 1, iv 2, iv 3] 23), (1, .cells [iv 4, iv 5, iv 6, iv 7, iv 8, iv 9] 85)], next := 42, pc := .lit true :: shPc }
def C2 : Cfg := { top := ⟨11, over (opqS 10000 181) [(2, .rom 0 (.lit 0) (.rlen 0)), (3, .ptr 0 0)], ogt (atTodo B 9), [], false, none⟩, rest := [], heap := [(0, .cells [iv 1, iv 2, iv 3] 23)], next := 10, pc := shPc }
def pI : IE := xv 10208
def C3 : Cfg := { top := ⟨11, over (opqS 10000 181) [(2, .rom 0 (.lit 0) (.rlen 0)), (3, .ptr 0 0), (12, .ptr 10 0), (13, iv 10208)], ogt (loopTodo B 0), [], false, none⟩, rest := [], heap := [(10, .cells [iv 101000, iv 101001, .bool (.var 101002)] 72), (0, .cells [iv 1, iv 2, iv 3] 23)], next := 11, pc := .le (.lit 0) pI :: .le pI (.lit 60) :: .le pI (.rlen 0) :: .le (.lit 0) (xv 101000) :: .le (xv 101000) (.lit 1099511627776) :: .le (.lit 0) (xv 101001) :: .not (.le (xv 1) (xv 101001)) :: shPc }
def tm : List (Nat × Cfg) := [(1, C1), (2, C2), (3, C3), (10, S 0), (11, S 1), (12, S 2), (13, S 3), (14, S 4), (15, S 5), (16, S 6), (17, S 7), (18, S 8)]
def m : Nat → IE
  | 1 => .add (.rlen 0) (.lit 20)
  | 2 => .add (.rlen 0) (.lit 10)
  | 3 => .add (.sub (.rlen 0) pI) (.lit 1)
  | _ => .add (.rlen 0) (.lit 30)
def sel : Sel := [(11, 1006, 0, 1), (11, 1009, 0, 2), (11, 1, 0, 3)]
end
end Go.Proofs.Ytjgkaimgocnkmab.epochHolds
