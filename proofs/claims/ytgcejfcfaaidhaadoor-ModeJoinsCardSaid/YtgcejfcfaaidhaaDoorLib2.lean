/- Which blocks may have turned; blocks that are known whole. No condition. -/
import Derived.Test.YtgcejfcfaaidhaaDoorLib
set_option linter.unusedSimpArgs false
set_option linter.unusedVariables false
namespace Go.Proofs.YtgcejfcfaaidhaaDoor
open Go.RowKit

/-- Of the blocks that lay those of a list may have turned, and no other. -/
structure Oth (ks : List Nat) (w W : World) : Prop where
  os : W.os = w.os
  tape : W.tape = w.tape
  output : W.output = w.output
  size : w.heap.size ≤ W.heap.size
  block : ∀ k, k < w.heap.size → k ∉ ks → W.heap[k]? = w.heap[k]?
section
variable {ks : List Nat} {w a b : World}
theorem Oth.refl (ks : List Nat) (w : World) : Oth ks w w := ⟨rfl, rfl, rfl, Nat.le_refl _, fun _ _ _ => rfl⟩
theorem Oth.trans (h : Oth ks w a) (k : Oth ks a b) : Oth ks w b :=
  ⟨k.os.trans h.os, k.tape.trans h.tape, k.output.trans h.output, Nat.le_trans h.size k.size, fun i hi hne => (k.block i (Nat.lt_of_lt_of_le hi h.size) hne).trans (h.block i hi hne)⟩
theorem Oth.mono {ks' : List Nat} (h : Oth ks w a) (hk : ∀ k, k ∈ ks → k ∈ ks') : Oth ks' w a := ⟨h.os, h.tape, h.output, h.size, fun i hi hne => h.block i hi (fun hm => hne (hk i hm))⟩
theorem Oth.ofGrown {row : Option Nat} (h : w.grownBy a row) (hr : ∀ k, row = some k → k ∈ ks ∨ w.heap.size ≤ k) : Oth ks w a :=
  ⟨h.os, h.tape, h.output, h.size, fun i hi hne => h.block i hi (fun e => by rcases hr i e.symm with h1 | h1; exact hne h1; omega)⟩
theorem Oth.grown {row : Option Nat} (h : Oth ks w a) (k : a.grownBy b row) (hr : ∀ k, row = some k → k ∈ ks ∨ w.heap.size ≤ k) : Oth ks w b :=
  ⟨k.os.trans h.os, k.tape.trans h.tape, k.output.trans h.output, Nat.le_trans h.size k.size, fun i hi hne => (k.block i (Nat.lt_of_lt_of_le hi h.size) (fun e => by rcases hr i e.symm with h1 | h1; exact hne h1; omega)).trans (h.block i hi hne)⟩
theorem Oth.toGrown (h : Oth [] w a) : w.grownBy a none := ⟨h.os, h.tape, h.output, h.size, fun i hi _ => h.block i hi (by simp)⟩
theorem Oth.toGrown1 {g : Nat} (h : Oth [g] w a) : w.grownBy a (some g) := ⟨h.os, h.tape, h.output, h.size, fun i hi hne => h.block i hi (by simpa using hne)⟩
theorem Oth.new (h : Oth ks w a) (hk : ∀ k, k ∈ ks → w.heap.size ≤ k) : w.grownBy a none := ⟨h.os, h.tape, h.output, h.size, fun i hi _ => h.block i hi (fun hm => by have := hk i hm; omega)⟩
theorem Oth.alloc (h : Oth ks w a) (o : Obj) : Oth ks w (a.alloc o) := h.grown (World.grownBy_alloc a o none) (by simp)
theorem Oth.drewN (h : Oth ks w a) (n : Nat) : Oth ks w (a.drewN n) := ⟨h.os, h.tape, h.output, h.size, h.block⟩
theorem Oth.drew (h : Oth ks w a) : Oth ks w a.drew := ⟨h.os, h.tape, h.output, h.size, h.block⟩
theorem Oth.set (h : Oth ks w a) {p : Addr} (hp : p.block ∈ ks ∨ w.heap.size ≤ p.block) (v : Value) : Oth ks w (a.setCell p v) :=
  h.grown (row := some p.block) (gset (World.grownBy.refl a _) (.inr rfl) v) (by simpa using hp)
theorem Oth.put (h : Oth ks w a) {l : Nat} (hp : l ∈ ks ∨ w.heap.size ≤ l) (o : Obj) : Oth ks w (a.putObj l o) :=
  h.grown (row := some l) (gput (World.grownBy.refl a _) (.inr rfl) o) (by simpa using hp)
theorem Oth.same (h : Oth ks w a) {k : Nat} {o : Obj} (hc : w.heap[k]? = some o) (hk : k ∉ ks) : a.heap[k]? = some o := (h.block k (Array.getElem?_eq_some_iff.1 hc).1 hk).trans hc
theorem Oth.cell (h : Oth ks w a) {k o : Nat} {v : Value} (hc : w.cell? ⟨k, o, none⟩ = some v) (hk : k ∉ ks) : a.cell? ⟨k, o, none⟩ = some v :=
  (World.cell?_of_block (h.block k (World.block_lt_of_cell? w _ hc) hk)).trans hc
theorem Oth.frozen (h : Oth ks w a) {k o : Nat} (hc : k < w.heap.size) (hk : k ∉ ks) : a.frozen? ⟨k, o, none⟩ = w.frozen? ⟨k, o, none⟩ :=
  World.frozen?_of_block (h.block k hc hk)
/-- A round that has gone on: its loop's record is as it was. -/
theorem Oth.round {l : Nat} {o : Obj} (h : Oth (l :: ks) w a) (hl : w.heap[l]? = some o) (ha : a.heap[l]? = some o) : Oth ks w a :=
  ⟨h.os, h.tape, h.output, h.size, fun i hi hne => by
    by_cases e : i = l
    · subst e; rw [ha, hl]
    · exact h.block i hi (by simp [e, hne])⟩
end

/-! ### A block known whole -/
theorem bcell {w : World} {b : Nat} {C : Array Value} {t : TypeId} (h : w.heap[b]? = some (.cells C t (0, 0))) (o : Nat) : w.cell? ⟨b, o, none⟩ = C[o]? := by simp [World.cell?, h]
theorem bfroz {w : World} {b : Nat} {C : Array Value} {t : TypeId} (h : w.heap[b]? = some (.cells C t (0, 0))) (o : Nat) : w.frozen? ⟨b, o, none⟩ = false := by simp [World.frozen?, h]
theorem bset {w : World} {b : Nat} {C : Array Value} {t : TypeId} (h : w.heap[b]? = some (.cells C t (0, 0))) (o : Nat) (v : Value) : (w.setCell ⟨b, o, none⟩ v).heap[b]? = some (.cells (C.setIfInBounds o v) t (0, 0)) := by
  obtain ⟨hlt, hk⟩ := Array.getElem?_eq_some_iff.1 h
  show (w.heap.modify b _)[b]? = _
  rw [Array.getElem?_eq_getElem (by rw [Array.size_modify]; exact hlt), Array.getElem_modify_self, hk]
  simp
theorem hnew (w : World) (o : Obj) : (w.alloc o).heap[w.heap.size]? = some o := World.alloc_heap_new w o
theorem hnewAt {w : World} {o : Obj} {n : Nat} (h : n = w.heap.size) : (w.alloc o).heap[n]? = some o := h ▸ hnew w o
theorem hold {w : World} {o : Obj} {k : Nat} {x : Obj} (h : w.heap[k]? = some x) : (w.alloc o).heap[k]? = some x := (Below.heap_alloc w o k (Array.getElem?_eq_some_iff.1 h).1).trans h
theorem hset {w : World} {p : Addr} {v : Value} {k : Nat} {x : Obj} (h : w.heap[k]? = some x) (hne : k ≠ p.block) : (w.setCell p v).heap[k]? = some x := (Below.heap_setCell w p v k hne).trans h
theorem hput {w : World} {l : Nat} {o : Obj} {k : Nat} {x : Obj} (h : w.heap[k]? = some x) (hne : k ≠ l) : (w.putObj l o).heap[k]? = some x := (World.putObj_heap_other hne).trans h
theorem hputs {w : World} {l : Nat} {o x : Obj} (h : w.heap[l]? = some x) : (w.putObj l o).heap[l]? = some o := World.putObj_heap_same (Array.getElem?_eq_some_iff.1 h).1


/-! ### A range over a function, the new world behind a name -/
section
variable {P : Program} {Q : Exit → Act → World → Prop} {a : Act} {w : World}
theorem wpIn_rangeFunc_abs {F : Fence} {n : Nat} (hro : F.round = none) (hdep : F.depth = none) (hfn : ∀ k, F.fn k) {g : Operand} {ps : Array Tmp} {assign body : Code} {gf : Nat} {lb : Array Value}
    (hg : a.eval g = .func (.func gf) #[] lb) (eg : ∀ args w, (callFunc gf args).run P w = .ok (.enter gf args) w)
    (h : ∀ fn W1 D l R, R = rec fn a.tmps ps assign body D → D = w.heap.size → l = w.heap.size + 1 → Oth [] w W1 → W1.heap.size = w.heap.size + 2 → W1.heap[l]? = some (.loop (R .ready none)) → W1.heap[D]? = some (.deferred (some [])) →
      CallsIn F (n - 1) P gf (#[.func (.yield l) #[] #[]] ++ lb) W1 (loopEnd F n P Q R l D a)) :
    (Code.rangeFunc g ps assign body).wpIn F n P Q a w :=
  wpIn_rangeFunc_free hro hdep hfn hg eg fun fn => h fn _ _ _ _ rfl rfl rfl (((Oth.refl _ _).alloc _).alloc _) (by simp) (hnewAt (by simp)) (hold (hnew _ _))

theorem yieldAt_R {F : Fence} {m l : Nat} {fn : FuncId} {tmps : Array Value} {ps : Array Tmp} {assign body : Code} {D : Nat} {args : Array Value} {W : World} {E : Ending → World → Prop} {R : LoopState → Option Code → Loop}
    (hR : R = rec fn tmps ps assign body D) (hfn : F.fn fn) (hl : W.heap[l]? = some (.loop (R .ready none))) (hs : args.size = ps.size)
    (h : assign.wpIn (F.inRound l) m P (Exit.then (fun a₁ W₁ => W₁.heap[l]? = some (.loop (R .ready none)) ∧
        body.wpIn (F.inRound l) m P (roundEnd P R l E) a₁ (W₁.putObj l (.loop (R .busy none)))) (fun _ _ _ => False))
      { tmps := (ps.zip args).foldl (fun t (p, v) => t.setIfInBounds p v) tmps, defers := [] } W) : YieldAt F m P l args W E := by
  subst hR
  exact yieldAt_of_body hfn hl hs h
end
end Go.Proofs.YtgcejfcfaaidhaaDoor
