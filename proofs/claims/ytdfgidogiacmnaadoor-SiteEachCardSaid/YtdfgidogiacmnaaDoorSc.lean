/- Layer site: words and contracts. No condition. -/
import Derived.Test.YtdfgidogiacmnaaDoorSb
set_option linter.unusedVariables false
set_option linter.unusedSimpArgs false
set_option linter.deprecated false
namespace Go.Proofs.YtdfgidogiacmnaaDoor.sit
open Go Go.Proofs.YtdfgidogiacmnaaDoor.Sx
noncomputable section
def shapeN (n l s : Int) : Bool := decide (1 ≤ n ∧ n ≤ 64 ∧ 1 ≤ l ∧ l ≤ 8 ∧ 1 ≤ s ∧ s ≤ 4)
def cmpN (x y : Int) : Int := if x < y then -1 else if y < x then 1 else 0
/-- How two tickets stand (node, lock, slot, use). -/
def ordN (n l s u m k t v : Int) : Int := if cmpN l k ≠ 0 then cmpN l k else if cmpN n m ≠ 0 then cmpN n m else if cmpN s t ≠ 0 then cmpN s t else cmpN u v
def fi : Nat → List AV → Int
  | 1, [.int _ x, .int _ y] => cmpN x y
  | 3, [.int _ n, .int _ l, .int _ s, .int _ u, .int _ m, .int _ k, .int _ t, .int _ v] => ordN n l s u m k t v
  | _, _ => 0
def fb : Nat → List AV → Bool
  | 2, [.int _ n, .int _ l, .int _ s] => shapeN n l s
  | _, _ => false
def Φ : Fns := ⟨fi, fb, fun _ _ => [], []⟩
def shapeF (n l s : Nat) : BE := .fn 2 (.int .i64 (xv n) (.int .i64 (xv l) (.int .i64 (xv s) .nil)))
def pShape : SV := .agg [iv 1, iv 2, iv 3]
def cWorks : Ctr := ⟨15, [], [], [], .bool (.lit true), [], 0, []⟩
def cRightS : Ctr := ⟨29, [pShape], [], [], .bool (shapeF 1 2 3), [], 0, []⟩
def cShapeS : Ctr := ⟨12, [pShape], [], [], .bool (shapeF 1 2 3), [], 0, []⟩
def bnd : List BE := [.le (.lit 1) (xv 1), .le (xv 1) (.lit 64), .le (.lit 1) (xv 2), .le (xv 2) (.lit 8), .le (.lit 1) (xv 3), .le (xv 3) (.lit 4)]
def cChk1 : Ctr := ⟨14, [pShape], [], [shapeF 1 2 3], .int .i64 (.lit 0), [], 0, bnd⟩
def cChk2 : Ctr := ⟨14, [pShape], [], [.not (shapeF 1 2 3)], .int .i64 (.lit 2), [], 0, []⟩
def cmpE (a b : Nat) : IE := .fn .i64 1 (.int .i64 (xv a) (.int .i64 (xv b) .nil))
def cCmp : Ctr := ⟨40, [iv 1, iv 2], [], [], .int .i64 (cmpE 1 2), [], 0, []⟩
def cCmp64 : Ctr := ⟨41, [iv 1, iv 2], [], [], .int .i64 (cmpE 1 2), [], 0, []⟩
def tick (n : Nat) : SV := .agg [iv n, iv (n + 1), iv (n + 2), iv (n + 3)]
def ordE : IE := .fn .i64 3 (.int .i64 (xv 1) (.int .i64 (xv 2) (.int .i64 (xv 3) (.int .i64 (xv 4) (.int .i64 (xv 5) (.int .i64 (xv 6) (.int .i64 (xv 7) (.int .i64 (xv 8) .nil))))))))
def cOrder : Ctr := ⟨24, [tick 1, tick 5], [], [], .int .i64 ordE, [], 0, []⟩
def cRefOrder : Ctr := ⟨25, [tick 1, tick 5], [], [], .int .i64 ordE, [], 0, []⟩
def cOrders : Ctr := ⟨7, [tick 1, tick 5], [], [], .bool (.lit true), [], 0, []⟩
def cNumbers : Ctr := ⟨3, [pShape, .agg [iv 4, iv 5], iv 6], [], [], .bool (.lit true), [], 0, []⟩
def cEach : Ctr := ⟨6, [pShape, iv 4], [], [], .bool (.lit true), [], 0, []⟩
end
theorem pi1 (k1 k2 : IntKind) (x y : Int) : Φ.i 1 [.int k1 x, .int k2 y] = cmpN x y := rfl
theorem pi3 (k1 k2 k3 k4 k5 k6 k7 k8 : IntKind) (n l s u m k t v : Int) : Φ.i 3 [.int k1 n, .int k2 l, .int k3 s, .int k4 u, .int k5 m, .int k6 k, .int k7 t, .int k8 v] = ordN n l s u m k t v := rfl
theorem cmp_rng (x y : Int) : -1 ≤ cmpN x y ∧ cmpN x y ≤ 1 := by
  unfold cmpN
  split
  · omega
  · split <;> omega
theorem ord_rng (n l s u m k t v : Int) : -1 ≤ ordN n l s u m k t v ∧ ordN n l s u m k t v ≤ 1 := by
  have h1 := cmp_rng l k
  have h2 := cmp_rng n m
  have h3 := cmp_rng s t
  have h4 := cmp_rng u v
  unfold ordN
  repeat' split
  all_goals omega
theorem cmp_cases (x y : Int) : (x < y ∧ cmpN x y = -1) ∨ (y < x ∧ cmpN x y = 1) ∨ (x = y ∧ cmpN x y = 0) := by
  unfold cmpN
  split
  · omega
  · split <;> omega
theorem clamp1 {x : Int} (h : -1 ≤ x ∧ x ≤ 1) : clampK .i64 x = x := by
  unfold clampK
  have a : kmin .i64 = -9223372036854775808 := rfl
  have b : kmax .i64 = 9223372036854775807 := rfl
  rw [if_pos (by omega)]
theorem clampC (x y : Int) : clampK .i64 (cmpN x y) = cmpN x y := clamp1 (cmp_rng x y)
theorem clampO (n l s u m k t v : Int) : clampK .i64 (ordN n l s u m k t v) = ordN n l s u m k t v := clamp1 (ord_rng n l s u m k t v)
theorem cmp_anti (x y : Int) : cmpN y x = - cmpN x y := by
  unfold cmpN
  repeat' split
  all_goals omega
theorem ord_anti (n l s u m k t v : Int) : ordN m k t v n l s u = - ordN n l s u m k t v := by
  unfold ordN
  rw [cmp_anti l k, cmp_anti n m, cmp_anti s t, cmp_anti u v]
  repeat' split
  all_goals omega
theorem post_chk1 : PostOk Φ cChk1 := by
  intro ρ hF hp
  have h1 : (shapeF 1 2 3).den ρ = true := hp _ (List.mem_singleton.2 rfl)
  have h2 : shapeN (ρ.i .i64 1) (ρ.i .i64 2) (ρ.i .i64 3) = true := by
    have e : (shapeF 1 2 3).den ρ = ρ.z.F.b 2 [.int .i64 (ρ.i .i64 1), .int .i64 (ρ.i .i64 2), .int .i64 (ρ.i .i64 3)] := rfl
    rw [e, hF] at h1
    exact h1
  have h3 : 1 ≤ ρ.i .i64 1 ∧ ρ.i .i64 1 ≤ 64 ∧ 1 ≤ ρ.i .i64 2 ∧ ρ.i .i64 2 ≤ 8 ∧ 1 ≤ ρ.i .i64 3 ∧ ρ.i .i64 3 ≤ 4 := of_decide_eq_true h2
  show Holds ρ [_, _, _, _, _, _]
  simp only [h_nil, h_cons, d_le, xv, IE.den, and_true]
  omega
theorem pb2 (k1 k2 k3 : IntKind) (n l s : Int) : Φ.b 2 [.int k1 n, .int k2 l, .int k3 s] = shapeN n l s := rfl
theorem shapeN_iff {n l s : Int} : (shapeN n l s = true) = (1 ≤ n ∧ n ≤ 64 ∧ 1 ≤ l ∧ l ≤ 8 ∧ 1 ≤ s ∧ s ≤ 4) := by unfold shapeN; exact propext ⟨of_decide_eq_true, fun h => decide_eq_true h⟩
theorem odd_ok : OddOk Φ := fun n a h => Typed.nil _
theorem told_join : Sx.Told Φ cJoin := join4 Φ
theorem told_ix1 : Sx.Told Φ cIx1 := tix1 Φ
theorem told_ixA : Sx.Told Φ cIxA := tixA Φ
theorem told_ixB : Sx.Told Φ cIxB := tixB Φ
end Go.Proofs.YtdfgidogiacmnaaDoor.sit
