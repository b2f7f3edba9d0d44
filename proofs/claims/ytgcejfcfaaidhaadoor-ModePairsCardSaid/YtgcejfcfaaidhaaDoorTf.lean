/- One more of a mode is counted. No condition. -/
import Derived.Test.YtgcejfcfaaidhaaDoorRt
import Derived.Handy
set_option linter.unusedSimpArgs false
set_option linter.unusedVariables false
namespace Go.Proofs.YtgcejfcfaaidhaaDoor
open Go.RowKit ref

/-- How many of each mode there are. -/
def cntV (ms : List Nat) : Value := .agg #[.int .i64 (ms.count 0 : Nat), .int .i64 (ms.count 1 : Nat), .int .i64 (ms.count 2 : Nat), .int .i64 (ms.count 3 : Nat), .int .i64 (ms.count 4 : Nat), .int .i64 (ms.count 5 : Nat)]

set_option maxRecDepth 100000 in
set_option maxHeartbeats 4000000 in
theorem step_count (m : Nat) (hm : m < 6) (c0 c1 c2 c3 c4 c5 : Nat) (h0 : (c0 : Int) < 1000) (h1 : (c1 : Int) < 1000) (h2 : (c2 : Int) < 1000) (h3 : (c3 : Int) < 1000) (h4 : (c4 : Int) < 1000) (h5 : (c5 : Int) < 1000) (w : World) :
    Tells Tryd.prog w 53 #[.agg #[.int .i64 c0, .int .i64 c1, .int .i64 c2, .int .i64 c3, .int .i64 c4, .int .i64 c5], .int .i64 m]
      (.agg #[.int .i64 ((if m = 0 then c0 + 1 else c0 : Nat) : Int), .int .i64 ((if m = 1 then c1 + 1 else c1 : Nat) : Int), .int .i64 ((if m = 2 then c2 + 1 else c2 : Nat) : Int), .int .i64 ((if m = 3 then c3 + 1 else c3 : Nat) : Int), .int .i64 ((if m = 4 then c4 + 1 else c4 : Nat) : Int), .int .i64 ((if m = 5 then c5 + 1 else c5 : Nat) : Int)]) := by
  refine .pure fun w => ?_
  have hi' : m = 0 ∨ m = 1 ∨ m = 2 ∨ m = 3 ∨ m = 4 ∨ m = 5 := by omega
  rcases hi' with rfl | rfl | rfl | rfl | rfl | rfl
  all_goals
    go_enter Tryd.func53, Tryd.ntmps53
    go_wp2
    go_returns
    exact ⟨by first | rfl | (simp; done) | (simp; omega), by (repeat' (first | (with_reducible exact World.grownBy.refl _ _) | (with_reducible assumption) | (with_reducible refine galloc ?_ _) | (with_reducible refine gdrewN ?_ _) | (with_reducible refine gdrew ?_) | (with_reducible refine gset ?_ (.inl ?_) _) | (with_reducible refine gput ?_ (.inl ?_) _) | (refine gtrans ?_ (by with_reducible assumption)) | omega | (simp; done) | (simp; omega)))⟩

end Go.Proofs.YtgcejfcfaaidhaaDoor
