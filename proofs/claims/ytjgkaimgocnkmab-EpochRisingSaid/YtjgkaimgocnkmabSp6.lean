/- A reckoner of Go's small steps over letters: the machine's steps. No condition. -/
import Derived.Test.YtjgkaimgocnkmabSp5
import Derived.RangeFuncLeaves
set_option linter.unusedVariables false
set_option linter.unusedSimpArgs false
set_option linter.deprecated false
namespace Go.Proofs.Ytjgkaimgocnkmab.Sx
open Go

/-- A frame that runs. -/
abbrev fr (fn : FuncId) (tmps : Array Value) (todo : List Item) (ds : List Deferred) (r : Option Nat) : Frame :=
  { fn := fn, tmps := tmps, todo := todo, defers := ds, mode := .run, kind := .normal, roundOf := r }
def putA (tmps : Array Value) (dst : Option Tmp) (v : Value) : Array Value :=
  match dst with
  | some d => tmps.setIfInBounds d v
  | none => tmps
section
variable {P : Program} {fn : FuncId} {tmps : Array Value} {k : List Item} {ds : List Deferred} {r : Option Nat} {cs : List Frame} {w : World}
theorem st_skip : step P (lone (fr fn tmps (.code .skip :: k) ds r) cs w) = .next (lone (fr fn tmps k ds r) cs w) :=
  step_lone_go (by simp [stepG, stepG.exec])
theorem st_label {l : Nat} : step P (lone (fr fn tmps (.code (.label l) :: k) ds r) cs w) = .next (lone (fr fn tmps k ds r) cs w) :=
  step_lone_go (by simp [stepG, stepG.exec])
theorem st_inBlock {id : Nat} : step P (lone (fr fn tmps (.inBlock id :: k) ds r) cs w) = .next (lone (fr fn tmps k ds r) cs w) :=
  step_lone_go (by simp [stepG, stepG.exec])
theorem st_inScope {c : Code} : step P (lone (fr fn tmps (.inScope c :: k) ds r) cs w) = .next (lone (fr fn tmps k ds r) cs w) :=
  step_lone_go (by simp [stepG, stepG.exec])
theorem st_seq {x y : Code} : step P (lone (fr fn tmps (.code (.seq x y) :: k) ds r) cs w) = .next (lone (fr fn tmps (.code x :: .code y :: k) ds r) cs w) :=
  step_lone_go (by simp [stepG, stepG.exec])
theorem st_cond {c : Operand} {x y : Code} {t : Bool} (h : Act.eval ⟨tmps, ds⟩ c = .bool t) : step P (lone (fr fn tmps (.code (.cond c x y) :: k) ds r) cs w) = .next (lone (fr fn tmps (.code (if t then x else y) :: k) ds r) cs w) :=
  step_lone_go (by
    have : Frame.eval (fr fn tmps (.code (.cond c x y) :: k) ds r) c = .bool t := by rw [← h]; cases c <;> rfl
    simp only [fr] at this
    simp [stepG, stepG.exec, this])
theorem st_block {id : Nat} {c : Code} : step P (lone (fr fn tmps (.code (.block id c) :: k) ds r) cs w) = .next (lone (fr fn tmps (.code c :: .inBlock id :: k) ds r) cs w) :=
  step_lone_go (by simp [stepG, stepG.exec])
theorem st_loop {c : Code} : step P (lone (fr fn tmps (.code (.loop c) :: k) ds r) cs w) = .next (lone (fr fn tmps (.code c :: .inLoop c :: k) ds r) cs w) :=
  step_lone_go (by simp [stepG, stepG.exec])
theorem st_inLoop {c : Code} : step P (lone (fr fn tmps (.inLoop c :: k) ds r) cs w) = .next (lone (fr fn tmps (.code c :: .inLoop c :: k) ds r) cs w) :=
  step_lone_go (by simp [stepG, stepG.exec])
theorem st_scope {c : Code} : step P (lone (fr fn tmps (.code (.scope c) :: k) ds r) cs w) = .next (lone (fr fn tmps (.code c :: .inScope c :: k) ds r) cs w) :=
  step_lone_go (by simp [stepG, stepG.exec])
theorem st_exit {id : Nat} {k' : List Item} (h : exitTo id k = some k') : step P (lone (fr fn tmps (.code (.exit id) :: k) ds r) cs w) = .next (lone (fr fn tmps k' ds r) cs w) :=
  step_lone_go (by simp [stepG, stepG.exec, h])
theorem st_goto {l : Nat} {k' : List Item} (h : gotoIn l k = some k') : step P (lone (fr fn tmps (.code (.goto l) :: k) ds r) cs w) = .next (lone (fr fn tmps k' ds r) cs w) :=
  step_lone_go (by simp [stepG, stepG.exec, h])
theorem st_ret : step P (lone (fr fn tmps (.code .ret :: k) ds none) cs w) = .next (lone { fr fn tmps (.code .ret :: k) ds none with mode := .returning } cs w) :=
  step_lone_go (by simp [stepG, stepG.exec])
theorem st_end : step P (lone (fr fn tmps [] ds none) cs w) = .next (lone { fr fn tmps [] ds none with mode := .returning } cs w) :=
  step_lone_go (by simp [stepG, stepG.exec])
theorem st_region {id : Nat} {ops : Array Oper} : step P (lone (fr fn tmps (.code (.region id ops false) :: k) ds r) cs w) = .next (lone (fr fn tmps (.inRegion ops (List.range ops.size) :: k) ds r) cs w) :=
  step_lone_go (by simp [stepG, stepG.exec])
theorem st_region_end {ops : Array Oper} : step P (lone (fr fn tmps (.inRegion ops [] :: k) ds r) cs w) = .next (lone (fr fn tmps k ds r) cs w) :=
  step_lone_go (by simp [stepG, stepG.exec])
theorem st_draw {id : Nat} {ops : Array Oper} : step P (lone (fr fn tmps (.code (.region id ops true) :: k) ds r) cs w) =
    .next (lone (fr fn tmps (.inRegion ops (Region.schedule (P.follows .mixedOrders) ops (w.tape w.drawn (.order fn id))) :: k) ds r) cs { w with drawn := w.drawn + 1 }) :=
  step_lone_go (by simp [stepG, stepG.exec, choose, Sem.run, Question.forced, Question.cut])
theorem finish_fr {ops : Array Oper} {i : Nat} {rest : List Nat} {o : Oper} (ho : ops[i]? = some o) (v : Value) : (fr fn tmps (.inRegion ops (i :: rest) :: k) ds r).finish v = fr fn (putA tmps o.dst v) (.inRegion ops rest :: k) ds r := by
  cases h : o.dst <;> simp [Frame.finish, ho, h, putA]
theorem st_op_skip {ops : Array Oper} {i : Nat} {rest : List Nat} {o : Oper} (ho : ops[i]? = some o) (hw : Region.wanted o (yielded ops tmps) = false) :
    step P (lone (fr fn tmps (.inRegion ops (i :: rest) :: k) ds r) cs w) = .next (lone (fr fn (putA tmps o.dst undef) (.inRegion ops rest :: k) ds r) cs w) := by
  rw [← finish_fr ho]
  exact step_lone_go (by simp [stepG, stepG.exec, ho, hw])
theorem eval_fr (todo : List Item) : (fr fn tmps todo ds r).eval = Act.eval ⟨tmps, ds⟩ := by funext x; cases x <;> rfl
theorem stG_op {ops : Array Oper} {i : Nat} {rest : List Nat} {o : Oper} (ho : ops[i]? = some o) (hw : Region.wanted o (yielded ops tmps) = true) (hd : ∀ c, o.op ≠ .defer c) :
    stepG P true { frame := fr fn tmps (.inRegion ops (i :: rest) :: k) ds r, callers := cs, status := .running, dying := none } w =
      stepG.apply P true (fr fn tmps (.inRegion ops (i :: rest) :: k) ds r) cs none (execOp (Act.eval ⟨tmps, ds⟩) o) w := by
  have he := eval_fr (fn := fn) (tmps := tmps) (ds := ds) (r := r) (.inRegion ops (i :: rest) :: k)
  simp only [fr] at he
  simp only [stepG, stepG.exec, ho, Option.map_some, Option.getD_some, hw, if_true, stepG.oper, Frame.oper?, fr]
  cases r with
  | none => simp [he]
  | some l =>
    rw [he]
    split
    · rename_i l' c h1 hc
      exact absurd hc (hd c)
    · rfl
theorem st_op_value {ops : Array Oper} {i : Nat} {rest : List Nat} {o : Oper} (ho : ops[i]? = some o) (hw : Region.wanted o (yielded ops tmps) = true) (hd : ∀ c, o.op ≠ .defer c) {v : Value} {w' : World}
    (hr : (execOp (Act.eval ⟨tmps, ds⟩) o).run P w = .ok (.value v) w' ∨ ((execOp (Act.eval ⟨tmps, ds⟩) o).run P w = .ok .skip w' ∧ v = undef)) :
    step P (lone (fr fn tmps (.inRegion ops (i :: rest) :: k) ds r) cs w) = .next (lone (fr fn (putA tmps o.dst v) (.inRegion ops rest :: k) ds r) cs w') := by
  refine step_lone_go ?_
  rw [stG_op ho hw hd, ← finish_fr ho]
  rcases hr with hr | ⟨hr, rfl⟩ <;> simp [stepG.apply, hr]
theorem st_op_enter {ops : Array Oper} {i : Nat} {rest : List Nat} {o : Oper} (ho : ops[i]? = some o) (hw : Region.wanted o (yielded ops tmps) = true) (hd : ∀ c, o.op ≠ .defer c) {f : FuncId} {args : Array Value} {w' : World}
    (hr : (execOp (Act.eval ⟨tmps, ds⟩) o).run P w = .ok (.enter f args) w') :
    step P (lone (fr fn tmps (.inRegion ops (i :: rest) :: k) ds r) cs w) = .next (lone (Frame.enter P f args .normal) (fr fn tmps (.inRegion ops (i :: rest) :: k) ds r :: cs) w') := by
  refine step_lone_go ?_
  rw [stG_op ho hw hd]
  simp [stepG.apply, hr]
theorem st_op_round {ops : Array Oper} {i : Nat} {rest : List Nat} {o : Oper} (ho : ops[i]? = some o) (hw : Region.wanted o (yielded ops tmps) = true) (hd : ∀ c, o.op ≠ .defer c) {l : Nat} {f : FuncId} {tm : Array Value} {as body : Code} {w' : World}
    (hr : (execOp (Act.eval ⟨tmps, ds⟩) o).run P w = .ok (.round l f tm as body) w') :
    step P (lone (fr fn tmps (.inRegion ops (i :: rest) :: k) ds r) cs w) = .next (lone (fr f tm [.code as, .beginRound, .code body] [] (some l)) (fr fn tmps (.inRegion ops (i :: rest) :: k) ds r :: cs) w') := by
  refine step_lone_go ?_
  rw [stG_op ho hw hd]
  simp [stepG.apply, hr, Frame.round]
/-- A frame that returns, without deferred calls. -/
theorem st_returned {f : FuncId} {todo : List Item} {c : Frame} {F : Func} {v : Value} (hF : P.funcs[f]? = some F) (hr : (results F tmps).run P w = .ok v w) :
    step P (lone { fr f tmps todo [] none with mode := .returning } (c :: cs) w) = .next (lone (c.finish v) cs w) :=
  step_leave_returned ⟨rfl, rfl, rfl, F, hF, hr⟩
theorem st_collected {f : FuncId} {todo : List Item} {b : Nat} (hb : w.heap[b]? = some (.deferred (some []))) :
    step P (lone { fr f tmps todo ({ target := .collected b, args := #[] } :: ds) none with mode := .returning } cs w) = .next (lone { fr f tmps todo ds none with mode := .returning } cs (World.putO w b (.deferred none))) := by
  refine step_lone_go ?_
  have hr : (Instr.takeDeferred b).run P w = .ok [] (World.putO w b (.deferred none)) := by
    simp [Instr.takeDeferred, getObj, setObj, Sem.run, hb, World.putO]
  simp [stepG, unwind, hr]
theorem st_range {f : Operand} {params : Array Tmp} {assign body : Code} {l : Nat} {mk : List Deferred} {w' : World} {g : FuncId} {args : Array Value}
    (h1 : (Instr.enterLoop fn tmps params assign body r).run P w = .ok (l, mk) w')
    (h2 : ((do let d ← resolve (Act.eval ⟨tmps, mk ++ ds⟩) { callee := .value f, args := #[.const (.func (.yield l) #[] #[])], argTypes := #[] } 0; invoke d.target d.args) : Sem Next).run P w' = .ok (.enter g args) w') :
    step P (lone (fr fn tmps (.code (.rangeFunc f params assign body) :: k) ds r) cs w) = .next (lone (Frame.enter P g args .normal) (fr fn tmps (.inRangeFunc l :: k) (mk ++ ds) r :: cs) w') := by
  refine step_lone_go ?_
  have he := eval_fr (fn := fn) (tmps := tmps) (ds := mk ++ ds) (r := r) (.inRangeFunc l :: k)
  simp only [fr] at he
  simp only [stepG, stepG.exec, fr, Sem.runT_eq, h1, GStep.bare_after]
  rw [he]
  simp [stepG.apply, h2]
theorem st_endRange {l : Nat} {jump : Option Code} {w' : World} (h : (Instr.endLoop l).run P w = .ok jump w') :
    step P (lone (fr fn tmps (.endRangeFunc l :: k) ds r) cs w) = .next (lone (fr fn tmps ((jump.map Item.code).toList ++ k) ds r) cs w') := by
  refine step_lone_go ?_
  simp [stepG, stepG.exec, h]
theorem st_begin {l : Nat} {w' : World} (h : (Instr.beginRound l).run P w = .ok () w') :
    step P (lone (fr fn tmps (.beginRound :: k) ds (some l)) cs w) = .next (lone (fr fn tmps k ds (some l)) cs w') := by
  refine step_lone_go ?_
  simp [stepG, stepG.exec, stepG.apply, h, Frame.finish]
theorem st_leave_round {todo : List Item} {l : Nat} {jump : Option Code} {v : Value} {w' : World} {c : Frame} (h : (Instr.endRound l jump).run P w = .ok v w')
    (ht : (todo = [] ∧ jump = none) ∨ (∃ k, todo = .code .ret :: k ∧ jump = some .ret) ∨ (∃ id k, todo = .code (.exit id) :: k ∧ exitTo id k = none ∧ jump = some (.exit id)) ∨ (∃ g k, todo = .code (.goto g) :: k ∧ gotoIn g k = none ∧ jump = some (.goto g))) :
    step P (lone (fr fn tmps todo ds (some l)) (c :: cs) w) = .next (lone (c.finish v) cs w') := by
  refine step_lone_go ?_
  rcases ht with ⟨rfl, rfl⟩ | ⟨k, rfl, rfl⟩ | ⟨id, k, rfl, he, rfl⟩ | ⟨g, k, rfl, he, rfl⟩
  · simp [stepG, stepG.exec, h, doReturn]
  · simp [stepG, stepG.exec, h, doReturn]
  · simp [stepG, stepG.exec, h, doReturn, he]
  · simp [stepG, stepG.exec, h, doReturn, he]
end
end Go.Proofs.Ytjgkaimgocnkmab.Sx
