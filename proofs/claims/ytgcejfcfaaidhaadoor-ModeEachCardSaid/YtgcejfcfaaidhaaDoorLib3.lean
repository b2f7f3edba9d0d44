/- A region that draws its order and whose calls make memory but turn none: one walk of the order of the text serves every order. No condition. -/
import Derived.Test.YtgcejfcfaaidhaaDoorLib2
import Derived.BigQuiet
set_option linter.unusedSimpArgs false
set_option linter.unusedVariables false
namespace Go.Proofs.YtgcejfcfaaidhaaDoor
open Go.RowKit

/-- A world that has grown out of 'w': what was there is as it was. -/
structure Grown (w : World) where
  W : World
  h : w.grownBy W none
instance {w : World} : Nonempty (Grown w) := ⟨⟨w, World.grownBy.refl _ _⟩⟩

theorem at_world {P : Program} {Q : Exit → Act → World → Prop} {a : Act} {w : World} {c : Code} (h : ∀ W, W = w → c.wp P Q a W) : c.wp P Q a w := h w rfl

theorem wp_region_grown {P : Program} {id : Nat} {Q : Exit → Act → World → Prop} {a : Act} {w : World} {l : List Oper} (hm : P.follows .mixedOrders = true) (hB : Region.lexB .any l.toArray = true)
    (h : wpQuiet P l.toArray (fun w' => ∃ g : Grown w, w' = g.W) (fun a' => ∀ w', (∃ g : Grown w, w' = g.W) → Q .normal a' w') l a) : (Code.region id l.toArray true).wp P Q a w :=
  wp_region_quiet (C := fun w' => ∃ g : Grown w, w' = g.W) hm hB ⟨⟨{ w with drawn := w.drawn + 1 }, gdrew (World.grownBy.refl _ _)⟩, rfl⟩ (by simpa using h)

theorem gcall {P : Program} {f : FuncId} {args : Array Value} {w : World} {g : Grown w} {v : Value} (h : Calls P f args g.W fun e w' => e = .returned v ∧ g.W.grownBy w' none) :
    Calls P f args g.W fun e w' => e = .returned v ∧ ∃ m : Grown w, w' = m.W :=
  h.mono fun _ _ ⟨he, k⟩ => ⟨he, ⟨_, gtrans g.h k⟩, rfl⟩
end Go.Proofs.YtgcejfcfaaidhaaDoor
