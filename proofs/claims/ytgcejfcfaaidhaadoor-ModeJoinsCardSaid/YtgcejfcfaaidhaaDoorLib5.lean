/- What an iterator yields, whoever asks it: a contract in general. No condition. -/
import Derived.Test.YtgcejfcfaaidhaaDoorLib4
import Derived.OwnWalkIn
import Derived.TacticsInMore
import Derived.LoopNIn
import Derived.LoopIn
import Derived.Shelf.RegionOpen
set_option linter.unusedSimpArgs false
set_option linter.unusedVariables false
namespace Go.Proofs.YtgcejfcfaaidhaaDoor
open Go.RowKit

/-- Wherever the blocks of F are as they were, the function value yields the rows of L, one by one, till a yield answers no; besides what the yields turn (blocks of S, none of F) nothing that was there turns. -/
def Iter (P : Program) (F : Nat → Prop) (w : World) (gf : Nat) (lb : Array Value) (L : List (Array Value)) : Prop :=
  ∀ (W : World) (l : Nat) (S : List Nat) (Inv : Nat → World → Prop) (Stop : World → Prop),
    (∀ k, F k → W.heap[k]? = w.heap[k]?) → (∀ k ∈ S, k < W.heap.size ∧ ¬ F k) →
    (∀ i X Y, Inv i X → X.grownBy Y none → Inv i Y) → (∀ X Y, Stop X → X.grownBy Y none → Stop Y) → Inv 0 W →
    (∀ i a X, L[i]? = some a → Inv i X → YieldAt Fence.wide 0 P l a X fun r Y => Oth S X Y ∧ ((r = .returned (.bool true) ∧ Inv (i + 1) Y) ∨ (r = .returned (.bool false) ∧ Stop Y))) →
    CallsIn Fence.wide 0 P gf (#[.func (.yield l) #[] #[]] ++ lb) W fun r Y => (∃ x, r = .returned x) ∧ Oth S W Y ∧ (Inv L.length Y ∨ Stop Y)

theorem Iter.keep {P : Program} {F : Nat → Prop} {w w' : World} {gf : Nat} {lb : Array Value} {L : List (Array Value)} (h : Iter P F w gf lb L) (hk : ∀ k, F k → w'.heap[k]? = w.heap[k]?) : Iter P F w' gf lb L :=
  fun W l S Inv Stop hF => h W l S Inv Stop (fun k hk' => (hF k hk').trans (hk k hk'))
theorem Iter.wider {P : Program} {F F' : Nat → Prop} {w : World} {gf : Nat} {lb : Array Value} {L : List (Array Value)} (h : Iter P F w gf lb L) (hk : ∀ k, F k → F' k) : Iter P F' w gf lb L :=
  fun W l S Inv Stop hF hS => h W l S Inv Stop (fun k hk' => hF k (hk k hk')) (fun k hk' => ⟨(hS k hk').1, fun hf => (hS k hk').2 (hk k hf)⟩)

/-- Of a block that is not turned. -/
theorem oth_block {S : List Nat} {W X : World} (h : Oth S W X) {k : Nat} {o : Obj} (hb : W.heap[k]? = some o) (hk : k ∉ S) : X.heap[k]? = some o := h.same hb hk
theorem heap_grown {X Y : World} (h : X.grownBy Y none) {k : Nat} {o : Obj} (hb : X.heap[k]? = some o) : Y.heap[k]? = some o := gblock h hb (by simp)

/-- How the body of a round of a range over an iterator may be left. -/
def roundQ (S : List Nat) (J : World → Prop) (K : Code → World → Prop) (X : World) : Exit → Act → World → Prop
  | .normal, _, Y => Oth S X Y ∧ J Y
  | .ret, _, Y => Oth S X Y ∧ K .ret Y
  | .exit id, _, Y => Oth S X Y ∧ K (.exit id) Y
  | .goto t, _, Y => Oth S X Y ∧ K (.goto t) Y
  | .panic _, _, _ => False
  | .outgrown, _, _ => False

theorem put_below {B l : Nat} {X : World} {o : Obj} (h : B ≤ l) : Below B X (X.putObj l o) :=
  ⟨rfl, rfl, rfl, by simp, fun k hk => World.putObj_heap_other (by omega)⟩
theorem put_grown {l : Nat} {X : World} {o : Obj} : X.grownBy (X.putObj l o) (some l) := gput (World.grownBy.refl _ _) (.inr rfl) o
theorem grown_below {B : Nat} {X Y : World} (h : X.grownBy Y none) (hB : B ≤ X.heap.size) : Below B X Y := (Below.refl _ _).grown h hB (by simp)

theorem wpIn_range_iter {P : Program} {Fp : Nat → Prop} {Q : Exit → Act → World → Prop} {a : Act} {w : World} {n : Nat} {g : Operand} {ps : Array Tmp} {assign body : Code} {gf : Nat} {lb : Array Value} {L : List (Array Value)}
    (hI : Iter P Fp w gf lb L) (hg : a.eval g = .func (.func gf) #[] lb) (eg : ∀ args w, (callFunc gf args).run P w = .ok (.enter gf args) w) (hn : n - 1 = 0)
    (S : List Nat) (J : Nat → World → Prop) (K : Code → World → Prop)
    (hS : ∀ k ∈ S, k < w.heap.size ∧ ¬ Fp k) (hFp : ∀ k, Fp k → k < w.heap.size)
    (hJ : ∀ i X Y, J i X → Below w.heap.size X Y → J i Y) (hK : ∀ c X Y, K c X → Below w.heap.size X Y → K c Y) (h0 : J 0 w)
    (hsz : ∀ (i : Nat) (args : Array Value), L[i]? = some args → args.size = ps.size)
    (hbody : ∀ (i : Nat) (args : Array Value) (X : World) (l : Nat), L[i]? = some args → J i X → w.heap.size < l → l < X.heap.size →
      assign.wpIn (Fence.wide.inRound l) 0 P (Exit.then (fun a₁ X₁ => X.grownBy X₁ none ∧ ∀ X₂, X₁.grownBy X₂ (some l) → X₂.heap.size = X₁.heap.size → J i X₂ →
        body.wpIn (Fence.wide.inRound l) 0 P (roundQ S (J (i + 1)) K X₂) a₁ X₂) (fun _ _ _ => False))
        { tmps := (ps.zip args).foldl (fun t (p, v) => t.setIfInBounds p v) a.tmps, defers := [] } X)
    (hdone : ∀ X D, J L.length X → D = w.heap.size → X.heap[D]? = some (.deferred (some [])) → w.heap.size + 2 ≤ X.heap.size → Q .normal { a with defers := { target := .collected D, args := #[] } :: a.defers } X)
    (hstop : ∀ c X D, K c X → D = w.heap.size → X.heap[D]? = some (.deferred (some [])) → w.heap.size + 2 ≤ X.heap.size → c.wpIn Fence.wide n P Q { a with defers := { target := .collected D, args := #[] } :: a.defers } X) :
    (Code.rangeFunc g ps assign body).wpIn Fence.wide n P Q a w := by
  refine wpIn_rangeFunc_abs rfl rfl (fun _ => trivial) hg eg ?_
  intro fn W1 D l R hR hD hl hO hz hL1 hD1
  rw [hn]
  have hB1 : Below w.heap.size w W1 := grown_below hO.toGrown (Nat.le_refl _)
  refine (hI W1 l (l :: S) (fun i X => X.heap[l]? = some (.loop (R .ready none)) ∧ X.heap[D]? = some (.deferred (some [])) ∧ w.heap.size + 2 ≤ X.heap.size ∧ J i X)
    (fun X => ∃ c, X.heap[l]? = some (.loop (R .done (some c))) ∧ X.heap[D]? = some (.deferred (some [])) ∧ w.heap.size + 2 ≤ X.heap.size ∧ K c X) ?_ ?_ ?_ ?_ ?_ ?_).mono ?_
  · exact fun k hk => hO.block k (hFp k hk) (by simp)
  · intro k hk
    rw [List.mem_cons] at hk
    rcases hk with rfl | hk
    · exact ⟨by omega, fun h => by have := hFp _ h; omega⟩
    · exact ⟨by have := (hS k hk).1; omega, (hS k hk).2⟩
  · rintro i X Y ⟨h1, h2, h3, h4⟩ hg
    exact ⟨heap_grown hg h1, heap_grown hg h2, Nat.le_trans h3 hg.size, hJ i X Y h4 (grown_below hg (by omega))⟩
  · rintro X Y ⟨c, h1, h2, h3, h4⟩ hg
    exact ⟨c, heap_grown hg h1, heap_grown hg h2, Nat.le_trans h3 hg.size, hK c X Y h4 (grown_below hg (by omega))⟩
  · exact ⟨hL1, hD1, by omega, hJ 0 w W1 h0 hB1⟩
  · rintro i args X hi ⟨h1, h2, h3, h4⟩
    refine yieldAt_R hR trivial h1 (hsz i args hi) (wpIn_mono (hbody i args X l hi h4 (by omega) (by omega)) ?_)
    intro e a₁ X₁ he
    cases e with
    | normal =>
      obtain ⟨hg1, hb⟩ := he
      have hl1 : X₁.heap[l]? = some (.loop (R .ready none)) := heap_grown hg1 h1
      refine ⟨hl1, wpIn_mono (hb _ put_grown (by simp) (hJ i X _ h4 ((grown_below hg1 (by omega)).trans (put_below (by omega))))) ?_⟩
      have hlS : l ∉ S := fun h => by have := (hS l h).1; omega
      have hDS : D ∉ S := fun h => by have := (hS D h).1; omega
      have hDl : D ≠ l := by omega
      intro e a₂ Y hY
      have fin : ∀ o, Oth S (X₁.putObj l (.loop (R .busy none))) Y → Y.heap[l]? = some (.loop (R .busy none)) ∧ Oth (l :: S) X (Y.putObj l o) ∧ (Y.putObj l o).heap[l]? = some o ∧ (Y.putObj l o).heap[D]? = some (.deferred (some [])) ∧ w.heap.size + 2 ≤ (Y.putObj l o).heap.size := by
        intro o hO2
        have q0 : (X₁.putObj l (.loop (R .busy none))).heap[l]? = some (.loop (R .busy none)) := hputs hl1
        have q1 := hO2.same q0 hlS
        have q2 : (X₁.putObj l (.loop (R .busy none))).heap[D]? = some (.deferred (some [])) := hput (heap_grown hg1 h2) hDl
        refine ⟨q1, ?_, hputs q1, hput (hO2.same q2 hDS) hDl, ?_⟩
        · exact ((((Oth.refl _ _).grown hg1 (by simp)).put (.inl (by simp)) _).trans (hO2.mono (by intro k hk; simp [hk]))).put (.inl (by simp)) _
        · have := hg1.size; have := hO2.size; simp at this ⊢; omega
      cases e with
      | normal =>
        obtain ⟨hO2, hJ2⟩ := hY
        obtain ⟨q1, q2, q3, q4, q5⟩ := fin (.loop (R .ready none)) hO2
        exact ⟨q1, q2, .inl ⟨rfl, q3, q4, q5, hJ _ Y _ hJ2 (put_below (by omega))⟩⟩
      | ret =>
        obtain ⟨hO2, hK2⟩ := hY
        obtain ⟨q1, q2, q3, q4, q5⟩ := fin (.loop (R .done (some .ret))) hO2
        exact ⟨q1, q2, .inr ⟨rfl, _, q3, q4, q5, hK _ Y _ hK2 (put_below (by omega))⟩⟩
      | exit id =>
        obtain ⟨hO2, hK2⟩ := hY
        obtain ⟨q1, q2, q3, q4, q5⟩ := fin (.loop (R .done (some (.exit id)))) hO2
        exact ⟨q1, q2, .inr ⟨rfl, _, q3, q4, q5, hK _ Y _ hK2 (put_below (by omega))⟩⟩
      | goto t =>
        obtain ⟨hO2, hK2⟩ := hY
        obtain ⟨q1, q2, q3, q4, q5⟩ := fin (.loop (R .done (some (.goto t)))) hO2
        exact ⟨q1, q2, .inr ⟨rfl, _, q3, q4, q5, hK _ Y _ hK2 (put_below (by omega))⟩⟩
      | panic ch => exact hY.elim
      | outgrown => exact hY.elim
    | _ => exact he.elim
  · rintro e X ⟨⟨x, rfl⟩, hO2, (⟨h1, h2, h3, h4⟩ | ⟨c, h1, h2, h3, h4⟩)⟩
    · exact .inl ⟨h1, hdone _ D (hJ _ X _ h4 (put_below (by omega))) hD (hput h2 (by omega)) (by simpa using h3)⟩
    · exact .inr ⟨c, h1, hstop c _ D (hK c X _ h4 (put_below (by omega))) hD (hput h2 (by omega)) (by simpa using h3)⟩
end Go.Proofs.YtgcejfcfaaidhaaDoor
