/- Laws of the walk that the seat's proofs share: a scope that is left by gotos forward; a range over a function whose iterator and body share memory. No condition. -/
import Derived.WalkKit
import Derived.RangeFuncNested
import Derived.BigFrameIn
import Derived.TacticsIn
import Derived.WalkMore
import Derived.BigQuiet
import Derived.Deep.QuietTactic
import Derived.LoopN
set_option linter.unusedSimpArgs false
set_option linter.unusedVariables false
namespace Go.Proofs.YtgcejfcfaaidhaaDoor
open Go.RowKit

/-! ### Draws are moved outward -/
@[go_sem] theorem alloc_drewN (w : World) (n : Nat) (o : Obj) : (w.drewN n).alloc o = (w.alloc o).drewN n := rfl
@[go_sem] theorem setCell_drewN (w : World) (n : Nat) (p : Addr) (v : Value) : (w.drewN n).setCell p v = (w.setCell p v).drewN n := rfl
@[go_sem] theorem putObj_drewN (w : World) (n l : Nat) (o : Obj) : (w.drewN n).putObj l o = (w.putObj l o).drewN n := rfl
@[go_sem] theorem putObj_drew (w : World) (l : Nat) (o : Obj) : w.drew.putObj l o = (w.putObj l o).drew := rfl

/-! ### Cells behind stores and new blocks -/
theorem cset_ne {w : World} {a b : Addr} {v : Value} (h : a ≠ b) : (w.setCell a v).cell? b = w.cell? b := by apply World.cell?_setCell_other; exact h
theorem cset_same {w : World} {a : Addr} {v u : Value} (h : w.cell? a = some u) : (w.setCell a v).cell? a = some v := by apply World.cell?_setCell_same; exact h
theorem calloc_lt {w : World} {a : Addr} {o : Obj} (h : a.block < w.heap.size) : (w.alloc o).cell? a = w.cell? a := by apply World.cell?_alloc_lt; exact h
theorem falloc_ne {w : World} {a : Addr} {o : Obj} (h : a.block ≠ w.heap.size) : (w.alloc o).frozen? a = w.frozen? a := by apply World.frozen?_alloc_old; exact h

/-! ### One row that may turn, and new ones -/
section
variable {w a b : World} {row : Option Nat}
theorem gtrans (h : w.grownBy a row) (k : a.grownBy b row) : w.grownBy b row :=
  ⟨k.os.trans h.os, k.tape.trans h.tape, k.output.trans h.output, Nat.le_trans h.size k.size, fun i hi hne => (k.block i (Nat.lt_of_lt_of_le hi h.size) hne).trans (h.block i hi hne)⟩
theorem galloc (h : w.grownBy a row) (o : Obj) : w.grownBy (a.alloc o) row := gtrans h (World.grownBy_alloc a o row)
theorem gdrewN (h : w.grownBy a row) (n : Nat) : w.grownBy (a.drewN n) row := gtrans h ⟨rfl, rfl, rfl, Nat.le_refl _, fun _ _ _ => rfl⟩
theorem gdrew (h : w.grownBy a row) : w.grownBy a.drew row := gtrans h ⟨rfl, rfl, rfl, Nat.le_refl _, fun _ _ _ => rfl⟩
theorem gset (h : w.grownBy a row) {p : Addr} (hp : w.heap.size ≤ p.block ∨ row = some p.block) (v : Value) : w.grownBy (a.setCell p v) row := by
  refine ⟨h.os, h.tape, h.output, by simpa [World.setCell] using h.size, fun i hi hne => ?_⟩
  rw [Below.heap_setCell a p v i (by rcases hp with hp | hp; omega; rintro rfl; exact hne hp.symm)]
  exact h.block i hi hne
theorem gput (h : w.grownBy a row) {l : Nat} (hp : w.heap.size ≤ l ∨ row = some l) (o : Obj) : w.grownBy (a.putObj l o) row := by
  refine ⟨h.os, h.tape, h.output, by simpa using h.size, fun i hi hne => ?_⟩
  rw [World.putObj_heap_other (by rcases hp with hp | hp; omega; rintro rfl; exact hne hp.symm)]
  exact h.block i hi hne
theorem gwider (h : w.grownBy a none) (row : Option Nat) : w.grownBy a row := ⟨h.os, h.tape, h.output, h.size, fun i hi _ => h.block i hi (by simp)⟩
theorem gbelow (h : w.grownBy a row) (hr : ∀ k, row = some k → w.heap.size ≤ k) : Below w.heap.size w a := (Below.refl _ w).grown h (Nat.le_refl _) hr
end

/-! ### A callee that only reads, in a region that draws its order -/
section
variable {P : Program} {f : FuncId} {args : Array Value} {w W : World} {v : Value}
theorem qcall {n : Nat} (h : Calls P f args (w.drewN n) fun e w' => e = .returned v ∧ ∃ k, w' = (w.drewN n).drewN k) : Calls P f args (w.drewN n) fun e w' => e = .returned v ∧ ∃ m, w' = w.drewN m :=
  h.mono fun _ _ ⟨he, k, hk⟩ => ⟨he, n + k, by rw [hk, World.drewN_drewN]⟩
theorem qcall2 {a n : Nat} (h : Calls P f args (w.drewN (a + n)) fun e w' => e = .returned v ∧ ∃ k, w' = (w.drewN (a + n)).drewN k) : Calls P f args (w.drewN (a + n)) fun e w' => e = .returned v ∧ ∃ m, w' = w.drewN (a + m) :=
  h.mono fun _ _ ⟨he, k, hk⟩ => ⟨he, n + k, by rw [hk, World.drewN_drewN, Nat.add_assoc]⟩
theorem gcell {row : Option Nat} (h : w.grownBy W row) {b o : Nat} {v : Value} (hc : w.cell? ⟨b, o, none⟩ = some v) (hne : some b ≠ row) : W.cell? ⟨b, o, none⟩ = some v := h.cell hc hne
theorem gfroz {row : Option Nat} (h : w.grownBy W row) {b o : Nat} {v : Value} (hc : w.cell? ⟨b, o, none⟩ = some v) (hne : some b ≠ row) : W.frozen? ⟨b, o, none⟩ = w.frozen? ⟨b, o, none⟩ :=
  World.frozen?_of_block (h.block b (World.block_lt_of_cell? w _ hc) hne)
theorem gblock {row : Option Nat} (h : w.grownBy W row) {b : Nat} {o : Obj} (hc : w.heap[b]? = some o) (hne : some b ≠ row) : W.heap[b]? = some o :=
  (h.block b (Array.getElem?_eq_some_iff.1 hc).1 hne).trans hc
end

/-! ### A scope that is left by gotos forward -/

/-- As Q; a goto goes on behind its label in c (from where no goto follows). -/
def fwd (P : Program) (c : Code) (Q : Exit → Act → World → Prop) : Exit → Act → World → Prop
  | .goto l, a, w => ∃ rest, findLabel c l = some rest ∧ rest.wp P (Exit.noGoto Q) a w
  | e, a, w => Q e a w

def fwdIn (F : Fence) (n : Nat) (P : Program) (c : Code) (Q : Exit → Act → World → Prop) : Exit → Act → World → Prop
  | .goto l, a, w => ∃ rest, findLabel c l = some rest ∧ rest.wpIn F n P (Exit.noGoto Q) a w
  | e, a, w => Q e a w

section
variable {P : Program} {c : Code} {Q : Exit → Act → World → Prop} {a : Act} {w : World} {F : Fence} {n : Nat}
@[go_sem] theorem fwd_normal : fwd P c Q .normal a w = Q .normal a w := rfl
@[go_sem] theorem fwd_exit (id : Nat) : fwd P c Q (.exit id) a w = Q (.exit id) a w := rfl
@[go_sem] theorem fwd_ret : fwd P c Q .ret a w = Q .ret a w := rfl
@[go_sem] theorem fwd_panic (ch : List PanicEntry) : fwd P c Q (.panic ch) a w = Q (.panic ch) a w := rfl
@[go_sem] theorem fwdIn_normal : fwdIn F n P c Q .normal a w = Q .normal a w := rfl
@[go_sem] theorem fwdIn_exit (id : Nat) : fwdIn F n P c Q (.exit id) a w = Q (.exit id) a w := rfl
@[go_sem] theorem fwdIn_ret : fwdIn F n P c Q .ret a w = Q .ret a w := rfl
@[go_sem] theorem fwdIn_panic (ch : List PanicEntry) : fwdIn F n P c Q (.panic ch) a w = Q (.panic ch) a w := rfl

theorem wp_scope_fwd (h : c.wp P (fwd P c Q) a w) : (Code.scope c).wp P Q a w := by
  intro b k cs
  obtain ⟨e, a₁, w₁, hq, harr⟩ := h b (.inScope c :: k) cs
  cases e with
  | normal => exact ⟨.normal, a₁, w₁, hq, .head step_scope (Steps.trans harr (.one step_inScope))⟩
  | exit id => exact ⟨.exit id, a₁, w₁, hq, fun k' hk => .head step_scope (harr k' (by simp [exitTo, hk]))⟩
  | goto l =>
    obtain ⟨rest, hf, hr⟩ := hq
    obtain ⟨e₂, a₂, w₂, hq₂, harr₂⟩ := hr b (.inScope c :: k) cs
    have hg : gotoIn l (.inScope c :: k) = some (.code rest :: .inScope c :: k) := by simp [gotoIn, hf]
    have h1 := Steps.head (step_scope (P := P) (b := b) (a := a) (k := k) (cs := cs) (w := w) (c := c)) (harr _ hg)
    cases e₂ with
    | normal => exact ⟨.normal, a₂, w₂, hq₂, Steps.trans h1 (Steps.trans harr₂ (.one step_inScope))⟩
    | exit id => exact ⟨.exit id, a₂, w₂, hq₂, fun k' hk => Steps.trans h1 (harr₂ k' (by simp [exitTo, hk]))⟩
    | goto l' => exact hq₂.elim
    | ret => exact ⟨_, a₂, w₂, hq₂, .of_steps h1 harr₂⟩
    | panic ch => exact ⟨_, a₂, w₂, hq₂, .of_steps h1 harr₂⟩
    | outgrown => exact ⟨_, a₂, w₂, hq₂, .of_steps h1 harr₂⟩
  | ret => exact ⟨_, a₁, w₁, hq, .of_steps (.one step_scope) harr⟩
  | panic ch => exact ⟨_, a₁, w₁, hq, .of_steps (.one step_scope) harr⟩
  | outgrown => exact ⟨_, a₁, w₁, hq, .of_steps (.one step_scope) harr⟩

theorem stepR_scope {b : Frame} {k : List Item} {cs : List Frame} : step P (lone (b.atR a (.code (.scope c) :: k)) cs w) = .next (lone (b.atR a (.code c :: .inScope c :: k)) cs w) :=
  step_lone_go (by simp [stepG, stepG.exec, Frame.atR])
theorem stepR_inScope {b : Frame} {k : List Item} {cs : List Frame} : step P (lone (b.atR a (.inScope c :: k)) cs w) = .next (lone (b.atR a k) cs w) :=
  step_lone_go (by simp [stepG, stepG.exec, Frame.atR])

theorem wpIn_scope_fwd (h : c.wpIn F n P (fwdIn F n P c Q) a w) : (Code.scope c).wpIn F n P Q a w := by
  intro b k cs hro hb hr
  have h0 : (lone (b.atR a (.code (.scope c) :: k)) cs w).fenced P F := fenced_calm hb hr rfl
  have hx : ∀ id, exitTo id (.inScope c :: k) = exitTo id k := fun id => by simp [exitTo]
  obtain ⟨e, a₁, w₁, hq, harr⟩ := h b (.inScope c :: k) cs hro hb hr
  cases e with
  | normal => exact ⟨.normal, a₁, w₁, hq, .head h0 stepR_scope (StepsIn.trans harr (.one (fenced_calm (fr := b.atR a₁ (.inScope c :: k)) hb hr rfl) stepR_inScope))⟩
  | exit id => exact ⟨.exit id, a₁, w₁, hq, fun k' hk => .head h0 stepR_scope (harr.1 k' (by rw [hx]; exact hk)), fun hro' hk => let ⟨k₁, h1, h2⟩ := harr.2 hro' (by rw [hx]; exact hk); ⟨k₁, h1, .head h0 stepR_scope h2⟩⟩
  | goto l =>
    obtain ⟨rest, hf, hrest⟩ := hq
    obtain ⟨e₂, a₂, w₂, hq₂, harr₂⟩ := hrest b (.inScope c :: k) cs hro hb hr
    have hg : gotoIn l (.inScope c :: k) = some (.code rest :: .inScope c :: k) := by simp [gotoIn, hf]
    have h1 := StepsIn.head h0 (stepR_scope (P := P) (b := b) (a := a) (k := k) (cs := cs) (w := w) (c := c)) (harr.1 _ hg)
    cases e₂ with
    | normal => exact ⟨.normal, a₂, w₂, hq₂, StepsIn.trans h1 (StepsIn.trans harr₂ (.one (fenced_calm (fr := b.atR a₂ (.inScope c :: k)) hb hr rfl) stepR_inScope))⟩
    | exit id => exact ⟨.exit id, a₂, w₂, hq₂, fun k' hk => StepsIn.trans h1 (harr₂.1 k' (by rw [hx]; exact hk)), fun hro' hk => let ⟨k₁, g1, g2⟩ := harr₂.2 hro' (by rw [hx]; exact hk); ⟨k₁, g1, StepsIn.trans h1 g2⟩⟩
    | goto l' => exact hq₂.elim
    | ret => exact ⟨_, a₂, w₂, hq₂, .of_steps h1 harr₂⟩
    | panic ch => exact ⟨_, a₂, w₂, hq₂, .of_steps h1 harr₂⟩
    | outgrown => exact ⟨_, a₂, w₂, hq₂, .of_steps h1 harr₂⟩
  | ret => exact ⟨_, a₁, w₁, hq, .of_steps (.one h0 stepR_scope) harr⟩
  | panic ch => exact ⟨_, a₁, w₁, hq, .of_steps (.one h0 stepR_scope) harr⟩
  | outgrown => exact ⟨_, a₁, w₁, hq, .of_steps (.one h0 stepR_scope) harr⟩
end

/-! ### A range over a function -/

/-- The loop's record. -/
def rec (fn : FuncId) (tmps : Array Value) (ps : Array Tmp) (assign body : Code) (D : Nat) (st : LoopState) (pe : Option Code) : Loop :=
  { state := st, pending := pe, fn, tmps, params := ps, assign, body, defers := D }

section
variable {P : Program} {Q : Exit → Act → World → Prop} {a : Act} {w : World}

theorem run_endLoop_ready {fn : FuncId} {tmps : Array Value} {ps : Array Tmp} {assign body : Code} {D l : Nat} {W : World} (hl : W.heap[l]? = some (.loop (rec fn tmps ps assign body D .ready none))) :
    (Instr.endLoop l).run P W = .ok none (W.putObj l (.loop (rec fn tmps ps assign body D .exhausted none))) := by
  have h0 := run_endLoop (P := P) hl (by simp [rec])
  simp only [rec] at h0 ⊢
  exact h0
theorem run_endLoop_done {fn : FuncId} {tmps : Array Value} {ps : Array Tmp} {assign body : Code} {D l : Nat} {c : Code} {W : World} (hl : W.heap[l]? = some (.loop (rec fn tmps ps assign body D .done (some c)))) :
    (Instr.endLoop l).run P W = .ok (some c) (W.putObj l (.loop (rec fn tmps ps assign body D .exhausted (some c)))) := by
  have h0 := run_endLoop (P := P) hl (by simp [rec])
  simp only [rec] at h0 ⊢
  exact h0

theorem calls_of_wp_marks {f : FuncId} {fn : Func} {c : Code} {args : Array Value} {R : Ending → World → Prop}
    (hf : P.funcs[f]? = some fn) (hb : fn.body = some c)
    (h : c.wp P (bodyPostM Fence.wide 0 P fn R) { tmps := args ++ Array.replicate (fn.ntmps - args.size) undef, defers := [] } w) : Calls P f args w R :=
  callsIn_wide.1 (callsIn_of_wp_marks (F := Fence.wide) (n := 0) hf hb trivial (wpIn_wide.2 h) rfl)

/-- What is asked where the iterator has ended: no round has left: on behind the loop; a round has left by c: c is done. -/
def loopEnd (F : Fence) (n : Nat) (P : Program) (Q : Exit → Act → World → Prop) (r : LoopState → Option Code → Loop) (l D : Nat) (a : Act) : Ending → World → Prop
  | .returned _, W => (W.heap[l]? = some (.loop (r .ready none)) ∧ Q .normal { a with defers := { target := .collected D, args := #[] } :: a.defers } (W.putObj l (.loop (r .exhausted none)))) ∨
      (∃ c, W.heap[l]? = some (.loop (r .done (some c))) ∧ c.wpIn F n P Q { a with defers := { target := .collected D, args := #[] } :: a.defers } (W.putObj l (.loop (r .exhausted (some c)))))
  | _, _ => False

theorem wpIn_rangeFunc_free {F : Fence} {n : Nat} (hro : F.round = none) (hdep : F.depth = none) (hfn : ∀ k, F.fn k) {g : Operand} {ps : Array Tmp} {assign body : Code} {gf : Nat} {lb : Array Value}
    (hg : a.eval g = .func (.func gf) #[] lb) (eg : ∀ args w, (callFunc gf args).run P w = .ok (.enter gf args) w)
    (h : ∀ fn, CallsIn F (n - 1) P gf (#[.func (.yield (w.heap.size + 1)) #[] #[]] ++ lb)
      ((w.alloc (.deferred (some []))).alloc (.loop (rec fn a.tmps ps assign body w.heap.size .ready none)))
      (loopEnd F n P Q (rec fn a.tmps ps assign body w.heap.size) (w.heap.size + 1) w.heap.size a)) :
    (Code.rangeFunc g ps assign body).wpIn F n P Q a w := by
  refine wpIn_rangeFunc ?_
  intro fn _
  rw [hro]
  have h := h fn
  have he : (Instr.enterLoop fn a.tmps ps assign body none).run P w = .ok (w.heap.size + 1, [{ target := .collected w.heap.size, args := #[] }]) ((w.alloc (.deferred (some []))).alloc (.loop (rec fn a.tmps ps assign body w.heap.size .ready none))) := run_enterLoop_outer _ _ _ _ _
  generalize (w.alloc (.deferred (some []))).alloc (.loop (rec fn a.tmps ps assign body w.heap.size .ready none)) = W1 at h he
  refine ⟨w.heap.size + 1, [{ target := .collected w.heap.size, args := #[] }], W1, { target := .fn (.func gf) lb, args := #[.func (.yield (w.heap.size + 1)) #[] #[]] }, W1, gf,
    #[.func (.yield (w.heap.size + 1)) #[] #[]] ++ lb, W1, he, ?_, ?_, ?_, ?_, ?_⟩
  · simp only [resolve, hg]
    simp [go_sem]
  · intro f' _; exact hfn f'
  · simp [invoke, go_sem, eg]
  · rw [hdep]; simp
  · refine h.mono ?_
    rintro e W hW
    cases e with
    | returned v =>
      rcases hW with ⟨hl, hq⟩ | ⟨c, hl, hq⟩
      · exact ⟨none, _, run_endLoop_ready hl, hq⟩
      · exact ⟨some c, _, run_endLoop_done hl, hq⟩
    | panicked ch => exact hW.elim
    | outgrown => exact hW.elim

/-- Within a round of the loop l₀. -/
def loopEndR (F : Fence) (n : Nat) (P : Program) (Q : Exit → Act → World → Prop) (r : LoopState → Option Code → Loop) (l : Nat) (a : Act) : Ending → World → Prop
  | .returned _, W => (W.heap[l]? = some (.loop (r .ready none)) ∧ Q .normal a (W.putObj l (.loop (r .exhausted none)))) ∨
      (∃ c, W.heap[l]? = some (.loop (r .done (some c))) ∧ c.wpIn F n P Q a (W.putObj l (.loop (r .exhausted (some c)))))
  | _, _ => False

theorem wpIn_rangeFunc_round {F : Fence} {n l₀ : Nat} {r₀ : Loop} (hro : F.round = some l₀) (h0 : w.heap[l₀]? = some (.loop r₀)) (hdep : F.depth = none) (hfn : ∀ k, F.fn k) {g : Operand} {ps : Array Tmp} {assign body : Code} {gf : Nat} {lb : Array Value}
    (hg : a.eval g = .func (.func gf) #[] lb) (eg : ∀ args w, (callFunc gf args).run P w = .ok (.enter gf args) w)
    (h : ∀ fn, CallsIn F (n - 1) P gf (#[.func (.yield w.heap.size) #[] #[]] ++ lb)
      (w.alloc (.loop (rec fn a.tmps ps assign body r₀.defers .ready none)))
      (loopEndR F n P Q (rec fn a.tmps ps assign body r₀.defers) w.heap.size a)) :
    (Code.rangeFunc g ps assign body).wpIn F n P Q a w := by
  refine wpIn_rangeFunc ?_
  intro fn _
  rw [hro]
  have h := h fn
  have he : (Instr.enterLoop fn a.tmps ps assign body (some l₀)).run P w = .ok (w.heap.size, []) (w.alloc (.loop (rec fn a.tmps ps assign body r₀.defers .ready none))) := run_enterLoop_inner h0 _ _ _ _ _
  generalize w.alloc (.loop (rec fn a.tmps ps assign body r₀.defers .ready none)) = W1 at h he
  refine ⟨w.heap.size, [], W1, { target := .fn (.func gf) lb, args := #[.func (.yield w.heap.size) #[] #[]] }, W1, gf,
    #[.func (.yield w.heap.size) #[] #[]] ++ lb, W1, he, ?_, ?_, ?_, ?_, ?_⟩
  · simp only [resolve, hg]
    simp [go_sem]
  · intro f' _; exact hfn f'
  · simp [invoke, go_sem, eg]
  · rw [hdep]; simp
  · refine h.mono ?_
    rintro e W hW
    cases e with
    | returned v =>
      rcases hW with ⟨hl, hq⟩ | ⟨c, hl, hq⟩
      · exact ⟨none, _, run_endLoop_ready hl, hq⟩
      · exact ⟨some c, _, run_endLoop_done hl, hq⟩
    | panicked ch => exact hW.elim
    | outgrown => exact hW.elim

/-- How the body of a round may be left. -/
def roundEnd (P : Program) (r : LoopState → Option Code → Loop) (l : Nat) (R : Ending → World → Prop) : Exit → Act → World → Prop
  | .normal, _, W => W.heap[l]? = some (.loop (r .busy none)) ∧ R (.returned (.bool true)) (W.putObj l (.loop (r .ready none)))
  | .ret, _, W => W.heap[l]? = some (.loop (r .busy none)) ∧ R (.returned (.bool false)) (W.putObj l (.loop (r .done (some .ret))))
  | .exit id, _, W => W.heap[l]? = some (.loop (r .busy none)) ∧ R (.returned (.bool false)) (W.putObj l (.loop (r .done (some (.exit id)))))
  | .goto t, _, W => W.heap[l]? = some (.loop (r .busy none)) ∧ R (.returned (.bool false)) (W.putObj l (.loop (r .done (some (.goto t)))))
  | .panic _, _, _ => False
  | .outgrown, _, _ => False

theorem yieldAt_of_body {F : Fence} {m l : Nat} {fn : FuncId} {tmps : Array Value} {ps : Array Tmp} {assign body : Code} {D : Nat} {args : Array Value} {W : World} {R : Ending → World → Prop}
    (hfn : F.fn fn) (hl : W.heap[l]? = some (.loop (rec fn tmps ps assign body D .ready none))) (hs : args.size = ps.size)
    (h : assign.wpIn (F.inRound l) m P (Exit.then (fun a₁ W₁ => W₁.heap[l]? = some (.loop (rec fn tmps ps assign body D .ready none)) ∧
        body.wpIn (F.inRound l) m P (roundEnd P (rec fn tmps ps assign body D) l R) a₁ (W₁.putObj l (.loop (rec fn tmps ps assign body D .busy none)))) (fun _ _ _ => False))
      { tmps := (ps.zip args).foldl (fun t (p, v) => t.setIfInBounds p v) tmps, defers := [] } W) : YieldAt F m P l args W R := by
  refine ⟨fn, _, assign, body, run_yield hl hs, roundIn_of_wpIn hfn (wpIn_mono h ?_)⟩
  intro e a₁ W₁ he
  cases e with
  | normal =>
    obtain ⟨hl1, hb⟩ := he
    refine ⟨_, run_beginRound hl1 rfl, wpIn_mono hb ?_⟩
    intro e a₂ W₂ h2
    cases e with
    | normal => exact ⟨_, _, run_endRound none h2.1, h2.2⟩
    | ret => exact ⟨_, _, run_endRound (some .ret) h2.1, h2.2⟩
    | exit id => exact ⟨_, _, run_endRound (some (.exit id)) h2.1, h2.2⟩
    | goto t => exact ⟨_, _, run_endRound (some (.goto t)) h2.1, h2.2⟩
    | panic ch => exact h2.elim
    | outgrown => exact h2.elim
  | _ => exact he.elim
end
end Go.Proofs.YtgcejfcfaaidhaaDoor
