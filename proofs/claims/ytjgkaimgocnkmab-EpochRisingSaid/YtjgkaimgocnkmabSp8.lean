/- A reckoner of Go's small steps over letters: machines; one operation by itself. No condition. -/
import Derived.Test.YtjgkaimgocnkmabSp7
set_option linter.unusedVariables false
set_option linter.unusedSimpArgs false
set_option linter.deprecated false
namespace Go.Proofs.Ytjgkaimgocnkmab.Sx
open Go

def SItem.den (ρ : Rho) : SItem → Item
  | .code c => .code c
  | .inBlock id => .inBlock id
  | .inLoop b => .inLoop b
  | .inScope b => .inScope b
  | .inRegion ops rest => .inRegion ops rest
  | .inRange n => .inRangeFunc (ρ.a n)
  | .endRange n => .endRangeFunc (ρ.a n)
  | .beginRound => .beginRound
def SItem.okI (N : Nat) : SItem → Prop
  | .code c => codeOk c = true
  | .inLoop c => codeOk c = true
  | .inScope c => codeOk c = true
  | .inRegion ops _ => allPlain ops.toList = true
  | .inRange n => n < N
  | .endRange n => n < N
  | _ => True
def defsOf (ρ : Rho) (ds : List Nat) : List Deferred := ds.map fun n => { target := .collected (ρ.a n), args := #[] }
structure FrameR (ρ : Rho) (N : Nat) (s : SFrame) (f : Frame) : Prop where
  eq : f = { fr s.fn f.tmps (s.todo.map (SItem.den ρ)) (defsOf ρ s.defers) (s.round.map ρ.a) with mode := if s.ret then .returning else .run }
  slots : SlotsR ρ s.tmps f.tmps
  names : SNames N s.tmps
  items : ∀ i ∈ s.todo, i.okI N
  defs : ∀ n ∈ s.defers, n < N
  rnd : ∀ n, s.round = some n → n < N
  rr : s.ret = true → s.round = none
inductive FramesR (ρ : Rho) (N : Nat) : List SFrame → List Frame → Prop
  | nil : FramesR ρ N [] []
  | cons {s f ss fs} : FrameR ρ N s f → FramesR ρ N ss fs → FramesR ρ N (s :: ss) (f :: fs)
def bot (t : SFrame) : List SFrame → FuncId
  | [] => t.fn
  | s :: ss => bot s ss
structure CfgR (ρ : Rho) (b0 : World) (C : Cfg) (w : World) (f : Frame) (fs : List Frame) : Prop where
  top : FrameR ρ C.next C.top f
  rest : FramesR ρ C.next C.rest fs
  heap : HeapR ρ b0 C.heap w
  names : HNames C.next C.heap
  pc : Holds ρ C.pc
theorem FrameR.agr {ρ ρ' : Rho} {N M : Nat} (g : Agr ρ ρ' N M) (hm : N ≤ M) {s : SFrame} {f : Frame} (h : FrameR ρ N s f) : FrameR ρ' M s f := by
  refine ⟨?_, h.slots.agr g (fun i v hv n hn => .inl (h.names i v hv n hn)), h.names.le hm, ?_, fun n hn => Nat.lt_of_lt_of_le (h.defs n hn) hm, fun n hn => Nat.lt_of_lt_of_le (h.rnd n hn) hm, h.rr⟩
  · rw [h.eq]
    have e1 : s.todo.map (SItem.den ρ') = s.todo.map (SItem.den ρ) := by
      apply List.map_congr_left
      intro i hi
      have := h.items i hi
      cases i <;> simp [SItem.den, SItem.okI] at this ⊢
      · exact g.a _ (.inl this)
      · exact g.a _ (.inl this)
    have e2 : defsOf ρ' s.defers = defsOf ρ s.defers := by
      apply List.map_congr_left
      intro n hn
      rw [g.a n (.inl (h.defs n hn))]
    have e3 : s.round.map ρ'.a = s.round.map ρ.a := by
      cases hr : s.round with
      | none => rfl
      | some n => simp [g.a n (.inl (h.rnd n hr))]
    simp only [e1, e2, e3]
  · intro i hi
    have := h.items i hi
    cases i <;> simp [SItem.okI] at this ⊢ <;> first | exact this | exact Nat.lt_of_lt_of_le this hm
theorem FramesR.agr {ρ ρ' : Rho} {N M : Nat} (g : Agr ρ ρ' N M) (hm : N ≤ M) {ss : List SFrame} {fs : List Frame} (h : FramesR ρ N ss fs) : FramesR ρ' M ss fs := by
  induction h with
  | nil => exact .nil
  | cons h _ ih => exact .cons (h.agr g hm) ih
/-- A call that is told ahead does as is told. -/
structure CtrOk (P : Program) (F : Fns) (c : Ctr) : Prop where
  flat : c.res.flat2 = true ∧ flatH c.heap = true ∧ freeL c.post = true ∧ freeL c.pre = true
  names : HNames c.cnt c.heap ∧ NamesV c.cnt c.res ∧ SV.namesL c.pat = [] ∧ ∀ p ∈ c.heap, p.1 < c.cnt
  call : ∀ (ρ : Rho) (w : World), Gd F ρ → RomsOk c.roms w ρ → Holds ρ c.pre → Calls P c.f (SV.denL ρ c.pat).toArray w fun e w' => ∃ ρ', Agr ρ ρ' 0 c.cnt ∧ e = .returned (c.res.den ρ') ∧ HeapR ρ' w c.heap w'
/-- What is known of calls holds. -/
structure OracOk (P : Program) (b0 : World) (q : Orc) (ρ : Rho) : Prop where
  l : ∀ o ∈ q.l, (SV.namesL o.args = [] ∧ o.yes.names = [] ∧ o.no.names = []) ∧
    ∀ W, b0.grownBy W none → Calls P o.f (SV.denL ρ o.args).toArray W fun e w' => e = .returned ((if o.c.den ρ then o.yes else o.no).den ρ) ∧ W.grownBy w' none
  rom : RomOk q b0 ρ
  F : ρ.z.F = q.F
  ctr : ∀ c ∈ q.ctr, CtrOk P q.F c
theorem RomOk.eqz {l : Orc} {b0 : World} {ρ ρ' : Rho} (h : RomOk l b0 ρ) (g : ρ'.z = ρ.z) : RomOk l b0 ρ' := by
  refine ⟨by rw [g]; exact h.1, ?_⟩
  intro r esz cl hr
  have := h.2 r esz cl hr
  rw [g]; exact this
theorem OracOk.agr {P : Program} {b0 : World} {l : Orc} {ρ ρ' : Rho} {lo hi : Nat} (g : Agr ρ ρ' lo hi) (h : OracOk P b0 l ρ) : OracOk P b0 l ρ' := by
  refine ⟨?_, h.rom.eqz g.z, by rw [g.z]; exact h.F, h.ctr⟩
  intro o ho
  obtain ⟨⟨n1, n2, n3⟩, hc⟩ := h.l o ho
  refine ⟨⟨n1, n2, n3⟩, fun W hW => ?_⟩
  have e1 := SV.denL_agr g o.args (by rw [n1]; simp)
  have e2 : (if o.c.den ρ' then o.yes else o.no).den ρ' = (if o.c.den ρ then o.yes else o.no).den ρ := by
    rw [BE.den_agr g]
    apply SV.den_agr g
    split <;> simp [n2, n3]
  rw [e1, e2]
  exact hc W hW
theorem IE.beqL_eq : ∀ (a b : List IE), IE.beqL a b = true → a = b
  | [], b, h => by cases b <;> simp [IE.beqL] at h; rfl
  | x :: l, b, h => by cases b <;> simp [IE.beqL] at h; rw [IE.beq_eq _ _ h.1, IE.beqL_eq _ _ h.2]
theorem capBeq_eq : ∀ (a b : Option IE), capBeq a b = true → a = b
  | none, none, _ => rfl
  | none, some _, h => by simp [capBeq] at h
  | some _, none, h => by simp [capBeq] at h
  | some a, some b, h => by simp only [capBeq] at h; rw [IE.beq_eq _ _ h]
mutual
theorem SV.beq_eq : ∀ (a b : SV), SV.beq a b = true → a = b
  | .bool a, b, h => by cases b <;> simp [SV.beq] at h; rw [BE.beq_eq _ _ h]
  | .int k a, b, h => by cases b <;> simp [SV.beq, keq_iff] at h; rw [h.1, IE.beq_eq _ _ h.2]
  | .ptr n o, b, h => by cases b <;> simp [SV.beq] at h; rw [h.1, h.2]
  | .slice n o l c, b, h => by cases b <;> simp [SV.beq] at h; rw [h.1, h.2.1, h.2.2.1, h.2.2.2]
  | .agg a, b, h => by cases b <;> simp [SV.beq] at h; rw [SV.beqL_eq _ _ h]
  | .tup a, b, h => by cases b <;> simp [SV.beq] at h; rw [SV.beqL_eq _ _ h]
  | .opq n, b, h => by cases b <;> simp [SV.beq] at h; rw [h]
  | .iface t a, b, h => by cases b <;> simp [SV.beq] at h; rw [h.1, SV.beq_eq _ _ h.2]
  | .func (.func n) f c, b, h => by
    cases b <;> try (simp [SV.beq] at h; done)
    rename_i gn p q
    cases gn <;> simp [SV.beq] at h
    rw [h.1, SV.beqL_eq _ _ h.2.1, SV.beqL_eq _ _ h.2.2]
  | .func (.yield n) f c, b, h => by
    cases b <;> try (simp [SV.beq] at h; done)
    rename_i gn p q
    cases gn <;> simp [SV.beq] at h
    rw [h.1, SV.beqL_eq _ _ h.2.1, SV.beqL_eq _ _ h.2.2]
  | .func (.method n) f c, b, h => by cases b <;> simp [SV.beq] at h
  | .func (.methodOf t n) f c, b, h => by cases b <;> simp [SV.beq] at h
  | .func (.via t p g q) f c, b, h => by cases b <;> simp [SV.beq] at h
  | .const v, b, h => by
    unfold SV.beq at h
    split at h <;> first
      | rfl
      | (cases h; done)
      | (exfalso; simp_all; done)
      | (simp_all; done)
  | .str a, b, h => by cases b <;> simp [SV.beq] at h; rw [IE.beqL_eq _ _ h]
  | .sl n c z o l, b, h => by cases b <;> simp [SV.beq] at h; rw [h.1, h.2.1, h.2.2.1, h.2.2.2.1, h.2.2.2.2]
  | .rom r x y q, b, h => by cases b <;> simp [SV.beq] at h; rw [h.1, IE.beq_eq _ _ h.2.1, IE.beq_eq _ _ h.2.2.1, capBeq_eq _ _ h.2.2.2]
  | .rptr r x c, b, h => by cases b <;> simp [SV.beq] at h; rw [h.1, h.2.1, IE.beq_eq _ _ h.2.2]
  | .sll n c z x y q, b, h => by cases b <;> simp [SV.beq] at h; rw [h.1, h.2.1, h.2.2.1, IE.beq_eq _ _ h.2.2.2.1, IE.beq_eq _ _ h.2.2.2.2.1, capBeq_eq _ _ h.2.2.2.2.2]
  | .lptr n z x c, b, h => by cases b <;> simp [SV.beq] at h; rw [h.1, h.2.1, h.2.2.1, IE.beq_eq _ _ h.2.2.2]
  | .lstr l, b, h => by cases b <;> simp [SV.beq] at h; rw [LE.beq_eq _ _ h]
  | .cel l i j, b, h => by cases b <;> simp [SV.beq] at h; rw [h.1, IE.beq_eq _ _ h.2.1, LE.beq_eq _ _ h.2.2]
theorem SV.beqL_eq : ∀ (a b : List SV), SV.beqL a b = true → a = b
  | [], b, h => by cases b <;> simp [SV.beqL] at h; rfl
  | x :: l, b, h => by cases b <;> simp [SV.beqL] at h; rw [SV.beq_eq _ _ h.1, SV.beqL_eq _ _ h.2]
end
end Go.Proofs.Ytjgkaimgocnkmab.Sx
