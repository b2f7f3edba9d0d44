/- What a call tells wherever the memory has grown out of a given one: contracts under one name, closed to the walk. No condition. -/
import Derived.Test.YtgcejfcfaaidhaaDoorLib3
import Derived.Lib.Hide
set_option linter.unusedSimpArgs false
set_option linter.unusedVariables false
namespace Go.Proofs.YtgcejfcfaaidhaaDoor
open Go.RowKit

/-- Called in any memory that has grown out of w, f returns v, and turns nothing that was there. -/
def Tells (P : Program) (w : World) (f : FuncId) (args : Array Value) (v : Value) : Prop :=
  ∀ W, w.grownBy W none → Calls P f args W fun e w' => e = .returned v ∧ W.grownBy w' none
section
variable {P : Program} {w W : World} {f : FuncId} {args : Array Value} {v : Value} {K : Ending → World → Prop}
theorem Tells.up (h : Tells P w f args v) (hg : w.grownBy W none) : Tells P W f args v := fun X hX => h X (gtrans hg hX)
theorem Tells.of (h : ∀ W, w.grownBy W none → Calls P f args W fun e w' => e = .returned v ∧ W.grownBy w' none) : Tells P w f args v := h
theorem Tells.pure (h : ∀ W, Calls P f args W fun e w' => e = .returned v ∧ W.grownBy w' none) : Tells P w f args v := fun W _ => h W
theorem Tells.here (h : Tells P w f args v) : Calls P f args w fun e w' => e = .returned v ∧ w.grownBy w' none := h w (World.grownBy.refl _ _)
theorem Tells.use (h : Tells P w f args v) (hW : w.grownBy W none) (k : ∀ w1, w.grownBy w1 none → W.grownBy w1 none → K (.returned v) w1) : Calls P f args W K :=
  (h W hW).mono fun e w1 ⟨he, hg⟩ => he ▸ k w1 (gtrans hW hg) hg
theorem Tells.useHere (h : Tells P W f args v) (k : ∀ w1, W.grownBy w1 none → K (.returned v) w1) : Calls P f args W K :=
  (h W (World.grownBy.refl _ _)).mono fun e w1 ⟨he, hg⟩ => he ▸ k w1 hg
/-- A walk's beginning: w is the world of the contracts, b the one in which the call began, the walk begins in a third one. -/
theorem Tells.walk (h : ∀ b W, w.grownBy b none → b.grownBy W none → b.heap.size ≤ W.heap.size → Calls P f args W fun e w' => e = .returned v ∧ b.grownBy w' none) : Tells P w f args v :=
  fun W hW => h W W hW (World.grownBy.refl _ _) (Nat.le_refl _)
theorem Tells.arm {b : World} (h : Tells P w f args v) (hb : w.grownBy b none) (g : b.grownBy W none) (k : ∀ w1, b.grownBy w1 none → W.grownBy w1 none → K (.returned v) w1) : Calls P f args W K :=
  (h W (gtrans hb g)).mono fun e w1 ⟨he, hg⟩ => he ▸ k w1 (gtrans g hg) hg
/-- In a region that draws its order, over the class of worlds that have grown. -/
theorem Tells.held (h : Tells P w f args v) (g : Grown w) : Calls P f args g.W fun e w' => e = .returned v ∧ ∃ m : Grown w, w' = m.W := gcall (h g.W g.h)
theorem Tells.quiet {b : World} (h : Tells P w f args v) (hb : w.grownBy b none) (gw : b.grownBy W none) (g : Grown W) : Calls P f args g.W fun e w' => e = .returned v ∧ ∃ m : Grown W, w' = m.W := (h.up (gtrans hb gw)).held g
theorem Tells.in (h : Tells P w f args v) (hW : w.grownBy W none) (g : Grown W) : Calls P f args g.W fun e w' => e = .returned v ∧ ∃ m : Grown W, w' = m.W := (h.up hW).held g
/-- .. over the class of worlds that are w but for draws: not for it; a callee that makes nothing. -/
theorem Tells.eq {u : Value} (h : Tells P w f args v) (e : v = u) : Tells P w f args u := e ▸ h
theorem Tells.with {a2 : Array Value} (h : Tells P w f args v) (e : args = a2) : Tells P w f a2 v := e ▸ h
end
/-- A fact laid by a tactic that may fail. -/
theorem claimP {p goal : Prop} (hp : p) (k : p → goal) : goal := k hp
theorem carryC {W w1 : World} {goal : Prop} (hg : W.grownBy w1 none) (b o : Nat) {v : Value} (hc : W.cell? ⟨b, o, none⟩ = some v) (k : w1.cell? ⟨b, o, none⟩ = some v → goal) : goal := k (gcell hg hc (by simp))
theorem carryZ {W w1 : World} {goal : Prop} (hg : W.grownBy w1 none) (b o : Nat) {v : Value} (hc : W.cell? ⟨b, o, none⟩ = some v) {z : Bool} (hz : W.frozen? ⟨b, o, none⟩ = z) (k : w1.frozen? ⟨b, o, none⟩ = z → goal) : goal := k ((gfroz hg hc (by simp)).trans hz)
theorem gcell' {w W : World} (h : w.grownBy W none) {a : Addr} {v : Value} (hc : w.cell? a = some v) : W.cell? a = some v := h.cell hc (by simp)
theorem grownCell {w : World} {a : Addr} {v : Value} (hc : w.cell? a = some v) : ∀ g : Grown w, g.W.cell? a = some v := fun g => gcell' g.h hc
theorem at_world' {P : Program} {Q : Exit → Act → World → Prop} {a : Act} {w : World} {c : Code} (h : ∀ W, w.grownBy W none → c.wp P Q a W) : c.wp P Q a w := h w (World.grownBy.refl _ _)
theorem lt_add_of {a b k : Nat} (h : a < b) : a < b + k := Nat.lt_add_right k h
end Go.Proofs.YtgcejfcfaaidhaaDoor
