/- A reckoner of Go's small steps over letters: every run. No condition. -/
import Derived.Test.YtjgkaimgocnkmabSp17
import Derived.Test.YtjgkaimgocnkmabSrg
set_option linter.unusedVariables false
set_option linter.unusedSimpArgs false
set_option linter.deprecated false
namespace Go.Proofs.Ytjgkaimgocnkmab.Sx
open Go
section
variable {P : Program} {T : Tab} {b0 : World} {sub : Cfg → Out} {ρ : Rho} {w : World} {f : Frame} {fs : List Frame} {C : Cfg}
/-- Another todo, with a thing of the memory turned. -/
theorem todoU_ok (R : CfgR ρ b0 C w f fs) (hr : C.top.ret = false) {i : SItem} {k0 k : List SItem} (ht : C.top.todo = i :: k0) (cs : List Frame) {h' : SHeap} {w' : World} (hm : Move ρ ρ b0 C.heap h' C.next C.next w w')
    (hst : step P (lone (fr C.top.fn f.tmps (i.den ρ :: k0.map (SItem.den ρ)) (defsOf ρ C.top.defers) (C.top.round.map ρ.a)) (fs ++ cs) w) = .next (lone (fr C.top.fn f.tmps (k.map (SItem.den ρ)) (defsOf ρ C.top.defers) (C.top.round.map ρ.a)) (fs ++ cs) w'))
    (hk : ∀ j ∈ k, j.okI C.next) : ResOk P T.orac.F b0 ρ C w f fs cs (.next { C with top := { C.top with todo := k }, heap := h' }) := by
  have hf := frame_run R.top hr
  rw [ht] at hf
  refine ⟨rfl, ρ, w', fr C.top.fn f.tmps (k.map (SItem.den ρ)) (defsOf ρ C.top.defers) (C.top.round.map ρ.a), fs, ⟨⟨?_, R.top.slots, R.top.names, hk, R.top.defs, R.top.rnd, ?_⟩, R.rest, hm.heap, hm.names, R.pc⟩, hm, ?_, (bot_top (b := C.top) (by rfl) C.rest)⟩
  · simp [hr]
  · intro h; exact R.top.rr h
  · rw [hf]; exact .one hst
theorem endRange_ok (R : CfgR ρ b0 C w f fs) (hr : C.top.ret = false) {l : Nat} {k : List SItem} (ht : C.top.todo = .endRange l :: k) (cs : List Frame) : ResOk P T.orac.F b0 ρ C w f fs cs (endRangeStep C l k) := by
  unfold endRangeStep
  split
  · rename_i st pend fn tmps ps as body d hl
    obtain ⟨obj, ho, hR⟩ := R.heap.at_ l _ hl
    obtain ⟨X, hX, c1, c2, c3, hobj⟩ := hR
    subst hobj
    have hnm := R.names l _ hl
    split
    · trivial
    · rename_i hb
      have hst : ¬ st = .busy := by rintro rfl; simp [stLoop] at hb
      have hm := Move.upd R.heap R.names hl (.loop .exhausted pend fn tmps ps as body d)
        (.loop { state := .exhausted, pending := pend, fn := fn, tmps := X, params := ps.toArray, assign := as, body := body, defers := ρ.a d }) ⟨X, hX, c1, c2, c3, rfl⟩ hnm.2
      have hend : (Instr.endLoop (ρ.a l)).run P w = .ok pend (World.putO w (ρ.a l) (.loop { state := .exhausted, pending := pend, fn := fn, tmps := X, params := ps.toArray, assign := as, body := body, defers := ρ.a d })) := by
        simp [Instr.endLoop, run_getLoop ho, run_setObj ho, hst]
      refine todoU_ok R hr ht cs hm ?_ ?_
      · have := st_endRange (fn := C.top.fn) (tmps := f.tmps) (k := k.map (SItem.den ρ)) (ds := defsOf ρ C.top.defers) (r := C.top.round.map ρ.a) (cs := fs ++ cs) hend
        simp only [SItem.den]
        rw [this]
        cases pend <;> simp [SItem.den]
      · intro j hj
        rcases List.mem_append.1 hj with hj | hj
        · cases pend with
          | none => simp at hj
          | some c =>
            simp at hj
            subst hj
            exact c3 c rfl
        · exact R.top.items j (by rw [ht]; exact List.mem_cons_of_mem _ hj)
  · trivial
theorem begin_ok (R : CfgR ρ b0 C w f fs) (hr : C.top.ret = false) {k : List SItem} (ht : C.top.todo = .beginRound :: k) (cs : List Frame) : ResOk P T.orac.F b0 ρ C w f fs cs (beginStep C k) := by
  unfold beginStep
  split
  · rename_i l hround
    split
    · rename_i pend fn tmps ps as body d hl
      obtain ⟨obj, ho, hR⟩ := R.heap.at_ l _ hl
      obtain ⟨X, hX, c1, c2, c3, hobj⟩ := hR
      subst hobj
      have hnm := R.names l _ hl
      have hm := Move.upd R.heap R.names hl (.loop .busy pend fn tmps ps as body d)
        (.loop { state := .busy, pending := pend, fn := fn, tmps := X, params := ps.toArray, assign := as, body := body, defers := ρ.a d }) ⟨X, hX, c1, c2, c3, rfl⟩ hnm.2
      have hb : (Instr.beginRound (ρ.a l)).run P w = .ok () (World.putO w (ρ.a l) (.loop { state := .busy, pending := pend, fn := fn, tmps := X, params := ps.toArray, assign := as, body := body, defers := ρ.a d })) := by
        simp [Instr.beginRound, run_getLoop ho, run_setObj ho]
      refine todoU_ok R hr ht cs hm ?_ ?_
      · simp only [SItem.den, hround, Option.map_some]
        exact st_begin hb
      · intro j hj
        exact R.top.items j (by rw [ht]; exact List.mem_cons_of_mem _ hj)
    · trivial
  · trivial
theorem draw_ok (hT : T.Ok P) (hs : SubOk P b0 T.orac sub) (hρ : ρ.Ok) (hO : OracOk P b0 T.orac ρ) (R : CfgR ρ b0 C w f fs) (hr : C.top.ret = false) {id : Nat} {ops : Array Oper} {k : List SItem} (ht : C.top.todo = .code (.region id ops true) :: k) (fuel : Nat) (cs : List Frame) :
    ResOk P T.orac.F b0 ρ C w f fs cs (drawStep T sub fuel C ops k) := by
  have hf := frame_run R.top hr
  rw [ht] at hf
  have hops : slotsOk ops = true := R.top.items (.code (.region id ops true)) (by rw [ht]; exact List.mem_cons_self ..)
  unfold drawStep
  split
  · rename_i ls hls
    obtain ⟨hpc, rl, hrl, hh, ρ', w', tm', hst, h1, h2, hm⟩ := region_ok hT hs hρ hO hops R.pc R.heap R.names R.top.slots R.top.names hls C.top.fn id (k.map (SItem.den ρ)) (defsOf ρ C.top.defers) (C.top.round.map ρ.a) (fs ++ cs)
    refine ⟨?_, goOn C k rl, List.mem_map.2 ⟨rl, hrl, rfl⟩, ?_⟩
    · refine ⟨fun ρ2 gd hp => ?_, ?_, ?_⟩
      · obtain ⟨x, hx, hxh⟩ := hpc.some ρ2 gd hp
        exact ⟨goOn C k x, List.mem_map.2 ⟨x, hx, rfl⟩, hxh⟩
      · intro ρ2 x hx hxh
        obtain ⟨y, hy, rfl⟩ := List.mem_map.1 hx
        exact hpc.back ρ2 y hy hxh
      · intro ρ2 x hx y hy hxh hyh
        obtain ⟨x', hx', rfl⟩ := List.mem_map.1 hx
        obtain ⟨y', hy', rfl⟩ := List.mem_map.1 hy
        rw [hpc.one ρ2 x' hx' y' hy' hxh hyh]
    · have htop := R.top.agr hm.agr hm.le
      have hk : k.map (SItem.den ρ') = k.map (SItem.den ρ) := by
        apply List.map_congr_left
        intro j hj
        have := R.top.items j (by rw [ht]; exact List.mem_cons_of_mem _ hj)
        cases j <;> simp [SItem.den, SItem.okI] at this ⊢ <;> exact hm.agr.a _ (.inl this)
      have hd : defsOf ρ' C.top.defers = defsOf ρ C.top.defers := List.map_congr_left fun n hn => by rw [hm.agr.a n (.inl (R.top.defs n hn))]
      have hrd : C.top.round.map ρ'.a = C.top.round.map ρ.a := by
        cases hq : C.top.round with
        | none => rfl
        | some n => simp [hm.agr.a n (.inl (R.top.rnd n hq))]
      refine ⟨ρ', w', fr C.top.fn tm' (k.map (SItem.den ρ)) (defsOf ρ C.top.defers) (C.top.round.map ρ.a), fs, ⟨⟨?_, h1, h2, ?_, htop.defs, htop.rnd, ?_⟩, R.rest.agr hm.agr hm.le, hm.heap, hm.names, (hm.agr.holds).2 hh⟩, hm, ?_, (bot_top (b := C.top) (by rfl) C.rest)⟩
      · simp [goOn, hr, hk, hd, hrd]
      · intro j hj
        exact htop.items j (by rw [ht]; exact List.mem_cons_of_mem _ hj)
      · intro h; exact R.top.rr h
      · rw [hf]; exact hst
  · trivial
theorem cond_ok (hρ : ρ.Ok) (R : CfgR ρ b0 C w f fs) (hr : C.top.ret = false) {c : Operand} {a b : Code} {k : List SItem} (ht : C.top.todo = .code (.cond c a b) :: k) (cs : List Frame) : ResOk P T.orac.F b0 ρ C w f fs cs (condStep C c a b k) := by
  have hcode : codeOk (.cond c a b) = true := R.top.items (.code (.cond c a b)) (by rw [ht]; exact List.mem_cons_self ..)
  simp only [codeOk] at hcode
  split at hcode
  case isFalse => cases hcode
  rename_i hca
  have hk : ∀ j ∈ k, j.okI C.next := fun j hj => R.top.items j (by rw [ht]; exact List.mem_cons_of_mem _ hj)
  unfold condStep
  split
  · rename_i t hv
    have hev : Act.eval ⟨f.tmps, defsOf ρ C.top.defers⟩ c = .bool (t.den ρ) := by rw [ev_den (a := ⟨f.tmps, _⟩) R.top.slots c, hv]; rfl
    split
    · rename_i hd
      rw [dec_den hρ R.pc _ _ hd] at hev
      refine todo_ok R hr ht cs (fun cs => ?_) ?_
      · have := st_cond (P := P) (fn := C.top.fn) (k := k.map (SItem.den ρ)) (r := C.top.round.map ρ.a) (cs := cs) (w := w) (x := a) (y := b) hev
        simpa [SItem.den] using this
      · intro j hj
        rcases List.mem_cons.1 hj with rfl | hj
        · exact hca
        · exact hk j hj
    · rename_i hd
      rw [dec_den hρ R.pc _ _ hd] at hev
      refine todo_ok R hr ht cs (fun cs => ?_) ?_
      · have := st_cond (P := P) (fn := C.top.fn) (k := k.map (SItem.den ρ)) (r := C.top.round.map ρ.a) (cs := cs) (w := w) (x := a) (y := b) hev
        simpa [SItem.den] using this
      · intro j hj
        rcases List.mem_cons.1 hj with rfl | hj
        · exact hcode
        · exact hk j hj
    · trivial
  · trivial
theorem rangeS_eq : ∀ (n i : Nat), rangeS n i = List.range' i n
  | 0, i => rfl
  | n + 1, i => by simp [rangeS, List.range'_succ, rangeS_eq n (i + 1)]
theorem code_ok (hT : T.Ok P) (hs : SubOk P b0 T.orac sub) (hρ : ρ.Ok) (hO : OracOk P b0 T.orac ρ) (R : CfgR ρ b0 C w f fs) (hr : C.top.ret = false) {c : Code} {k : List SItem} (ht : C.top.todo = .code c :: k) (fuel : Nat) (cs : List Frame) :
    ResOk P T.orac.F b0 ρ C w f fs cs (codeStep T sub fuel C c k) := by
  have hcode : codeOk c = true := R.top.items (.code c) (by rw [ht]; exact List.mem_cons_self ..)
  have hk : ∀ j ∈ k, j.okI C.next := fun j hj => R.top.items j (by rw [ht]; exact List.mem_cons_of_mem _ hj)
  have hk1 : ∀ (i : SItem), i.okI C.next → ∀ j ∈ i :: k, j.okI C.next := by
    intro i hi j hj
    rcases List.mem_cons.1 hj with rfl | hj
    · exact hi
    · exact hk j hj
  have hk2 : ∀ (i i2 : SItem), i.okI C.next → i2.okI C.next → ∀ j ∈ i :: i2 :: k, j.okI C.next := by
    intro i i2 hi hi2 j hj
    rcases List.mem_cons.1 hj with rfl | hj
    · exact hi
    · exact hk1 i2 hi2 j hj
  cases c with
  | skip => exact todo_ok R hr ht cs (fun cs => st_skip) hk
  | label l => exact todo_ok R hr ht cs (fun cs => st_label) hk
  | seq a b =>
    simp only [codeOk] at hcode
    split at hcode
    · rename_i ha; exact todo_ok R hr ht cs (fun cs => st_seq) (hk2 _ _ ha hcode)
    · cases hcode
  | cond c a b => exact cond_ok hρ R hr ht cs
  | block id b => exact todo_ok R hr ht cs (fun cs => st_block) (hk2 _ _ hcode trivial)
  | loop b => exact todo_ok R hr ht cs (fun cs => st_loop) (hk2 _ _ hcode hcode)
  | scope b => exact todo_ok R hr ht cs (fun cs => st_scope) (hk2 _ _ hcode hcode)
  | exit id =>
    simp only [codeStep, exitStep]
    split
    · rename_i k' hk'
      exact todo_ok R hr ht cs (fun cs => st_exit (by rw [exitS_den, hk']; rfl)) (exitS_ok id k k' hk' hk)
    · rename_i hk'
      exact leave_ok R hr cs _ (by intro c hc; cases hc; rfl) (.inr (.inr (.inl ⟨id, k, ht, hk', rfl⟩)))
  | goto l =>
    simp only [codeStep, gotoStep]
    split
    · rename_i k' hk'
      exact todo_ok R hr ht cs (fun cs => st_goto (by rw [gotoS_den, hk']; rfl)) (gotoS_ok l k k' hk' hk)
    · rename_i hk'
      exact leave_ok R hr cs _ (by intro c hc; cases hc; rfl) (.inr (.inr (.inr ⟨l, k, ht, hk', rfl⟩)))
  | ret => exact leave_ok R hr cs _ (by intro c hc; cases hc; rfl) (.inr (.inl ⟨k, ht, rfl⟩))
  | rangeFunc x ps a b => exact range_ok hT R hr ht cs
  | refuse s => trivial
  | region id ops d =>
    cases d with
    | false =>
      refine todo_ok R hr ht cs (fun cs => ?_) (hk1 _ hcode)
      have := st_region (P := P) (fn := C.top.fn) (tmps := f.tmps) (k := k.map (SItem.den ρ)) (ds := defsOf ρ C.top.defers) (r := C.top.round.map ρ.a) (cs := cs) (w := w) (id := id) (ops := ops)
      simp only [List.map_cons, SItem.den]
      rw [this, rangeS_eq, ← List.range_eq_range']
      rfl
    | true => exact draw_ok hT hs hρ hO R hr ht fuel cs
theorem stepS_ok (hT : T.Ok P) (hs : SubOk P b0 T.orac sub) (hρ : ρ.Ok) (hO : OracOk P b0 T.orac ρ) (R : CfgR ρ b0 C w f fs) (fuel : Nat) (cs : List Frame) : ResOk P T.orac.F b0 ρ C w f fs cs (stepS T sub fuel C) := by
  unfold stepS
  split
  · rename_i hr; exact retStep_ok hT R hr cs
  · rename_i hr
    split
    · rename_i ht
      exact leave_ok R hr cs none (by intro c hc; cases hc) (.inl ⟨ht, rfl⟩)
    · rename_i i k ht
      have hk : ∀ j ∈ k, j.okI C.next := fun j hj => R.top.items j (by rw [ht]; exact List.mem_cons_of_mem _ hj)
      unfold itemStep
      split
      · exact code_ok hT hs hρ hO R hr ht fuel cs
      · exact todo_ok R hr ht cs (fun cs => st_inBlock) hk
      · exact todo_ok R hr ht cs (fun cs => st_inScope) hk
      · rename_i b
        have hb : codeOk b = true := R.top.items (.inLoop b) (by rw [ht]; exact List.mem_cons_self ..)
        refine todo_ok R hr ht cs (fun cs => st_inLoop) ?_
        intro j hj
        rcases List.mem_cons.1 hj with rfl | hj
        · exact hb
        · rcases List.mem_cons.1 hj with rfl | hj
          · exact hb
          · exact hk j hj
      · exact todo_ok R hr ht cs (fun cs => st_region_end) hk
      · exact stepRegion_ok hT hρ hO R hr ht cs
      · trivial
      · exact endRange_ok R hr ht cs
      · exact begin_ok R hr ht cs
def PcStep (F : Fns) (C : Cfg) : Res → Prop
  | .next C' => C'.pc = C.pc
  | .many l => PcOk F Cfg.pc C.pc l
  | _ => True
theorem region_pc (hs : SubPc T.orac.F sub) (hP : PostsOk T.orac) {fuel : Nat} {pc : List BE} {ops : List Oper} {sl : Slots} {h : SHeap} {nx : Nat} {ls : List RLeaf} (hr : region T sub fuel pc ops sl h nx = .leaves ls) : PcOk T.orac.F RLeaf.pc pc ls := by
  unfold region at hr
  split at hr
  · rename_i ls' hls
    rw [fL_eq] at hr
    split at hr
    · cases hr; exact (regGo_ok hs hP _ _ _ _ _ _ _ _ hls).1
    · cases hr
  · rename_i hh; exact absurd hr (hh _)
theorem giveBack_pc (h : SHeap) (v : SV) : PcStep T.orac.F C (giveBack C h v) := by
  unfold giveBack; (repeat' split) <;> first | trivial | rfl
theorem leaveS_pc (j : Option Code) : PcStep T.orac.F C (leaveS C j) := by
  unfold leaveS; (repeat' split) <;> first | trivial | rfl | exact giveBack_pc _ _
theorem retStep_pc : PcStep T.orac.F C (retStep T C) := by
  unfold retStep; (repeat' split) <;> first | trivial | rfl | exact giveBack_pc _ _
theorem stepRegion_pc (hP : PostsOk T.orac) (ops : Array Oper) (i : Nat) (rest : List Nat) (k : List SItem) : PcStep T.orac.F C (stepRegion T C ops i rest k) := by
  unfold stepRegion wantR runR enterR roundR valTo
  (repeat' split) <;> first
    | trivial
    | rfl
    | (rename_i u hu
       obtain ⟨cc, hcm, _, hcu⟩ := findC_use hu
       exact PcOk.more _ rfl (fun ρ g hp => useC_post g hp (hP cc hcm) hcu))
theorem drawStep_pc (hs : SubPc T.orac.F sub) (hP : PostsOk T.orac) (fuel : Nat) (ops : Array Oper) (k : List SItem) : PcStep T.orac.F C (drawStep T sub fuel C ops k) := by
  unfold drawStep
  split
  · rename_i ls hls
    have hpc := region_pc hs hP hls
    refine ⟨fun ρ2 gd hp => ?_, ?_, ?_⟩
    · obtain ⟨x, hx, hxh⟩ := hpc.some ρ2 gd hp
      exact ⟨goOn C k x, List.mem_map.2 ⟨x, hx, rfl⟩, hxh⟩
    · intro ρ2 x hx hxh
      obtain ⟨y, hy, rfl⟩ := List.mem_map.1 hx
      exact hpc.back ρ2 y hy hxh
    · intro ρ2 x hx y hy hxh hyh
      obtain ⟨x', hx', rfl⟩ := List.mem_map.1 hx
      obtain ⟨y', hy', rfl⟩ := List.mem_map.1 hy
      rw [hpc.one ρ2 x' hx' y' hy' hxh hyh]
  · trivial
theorem codeStep_pc (hs : SubPc T.orac.F sub) (hP : PostsOk T.orac) (fuel : Nat) (c : Code) (k : List SItem) : PcStep T.orac.F C (codeStep T sub fuel C c k) := by
  unfold codeStep
  split
  all_goals first
    | exact (rfl : _ = _)
    | exact drawStep_pc hs hP fuel _ _
    | exact leaveS_pc _
    | (unfold condStep; (repeat' split) <;> first | trivial | rfl)
    | (unfold exitStep; (repeat' split) <;> first | exact leaveS_pc _ | trivial | rfl)
    | (unfold gotoStep; (repeat' split) <;> first | exact leaveS_pc _ | trivial | rfl)
    | (unfold stepRange enterS; (repeat' split) <;> first | trivial | rfl)
    | trivial
theorem stepS_pc (hs : SubPc T.orac.F sub) (hP : PostsOk T.orac) (fuel : Nat) : PcStep T.orac.F C (stepS T sub fuel C) := by
  unfold stepS
  split
  · exact retStep_pc
  · split
    · exact leaveS_pc _
    · unfold itemStep
      split
      · exact codeStep_pc hs hP fuel _ _
      all_goals first
        | rfl
        | exact stepRegion_pc hP _ _ _ _
        | (unfold endRangeStep; (repeat' split) <;> first | trivial | rfl)
        | (unfold beginStep; (repeat' split) <;> first | trivial | rfl)
        | trivial
theorem runS_ok (hT : T.Ok P) : ∀ n, SubOk P b0 T.orac (runS T n) := by
  intro n
  induction n with
  | zero => intro C ls h; simp [runS] at h
  | succ n ih =>
    intro C ls h
    have hsp : SubPc T.orac.F (runS T n) := fun C ls h => (ih C ls h).1
    have hpc := stepS_pc (T := T) (C := C) hsp hT.posts n
    have compose : ∀ (C' : Cfg) (ls' : List Leaf), RunOk P b0 T.orac C' ls' → ∀ (ρ : Rho) (w : World) (f : Frame) (fs cs : List Frame), ρ.Ok → OracOk P b0 T.orac ρ → CfgR ρ b0 C w f fs → NextOk P b0 ρ C w f fs cs C' →
        ∃ lf ∈ ls', Holds ρ lf.pc ∧ ∃ ρ' w' f', Steps P (lone f (fs ++ cs) w) (lone f' cs w') ∧ f'.leaving P w' (.returned (lf.val.den ρ')) ∧ f'.fn = bot C.top C.rest ∧ Move ρ ρ' b0 C.heap lf.heap C.next lf.next w w' ∧ NamesV lf.next lf.val := by
      intro C' ls' hrun ρ w f fs cs hρ hO R ⟨ρ1, w1, f1, fs1, R1, hm, hst, hbot⟩
      obtain ⟨lf, hlf, hh, ρ', w', f', hst2, hlv, hfn, hm2, hn⟩ := hrun ρ1 w1 f1 fs1 cs (hm.agr.ok hρ) (hO.agr hm.agr) R1
      exact ⟨lf, hlf, (hm.agr.holds).1 hh, ρ', w', f', Steps.trans hst hst2, hlv, hfn.trans hbot, Move.trans hm hm2 R.names, hn⟩
    simp only [runS] at h
    split at h
    · rename_i C' hC'
      rw [hC'] at hpc
      obtain ⟨h1, h2⟩ := ih C' ls h
      refine ⟨by rw [← show C'.pc = C.pc from hpc]; exact h1, ?_⟩
      intro ρ w f fs cs hρ hO R
      have := stepS_ok (sub := runS T n) hT ih hρ hO R n cs
      rw [hC'] at this
      exact compose C' ls h2 ρ w f fs cs hρ hO R this.2
    · rename_i l hl
      rw [hl] at hpc
      obtain ⟨hk, rfl⟩ := overCfgs_ok h
      refine ⟨PcOk.bind hpc (fun x hx => (ih x _ (hk x hx)).1), ?_⟩
      intro ρ w f fs cs hρ hO R
      have := stepS_ok (sub := runS T n) hT ih hρ hO R n cs
      rw [hl] at this
      obtain ⟨_, C', hC', hnext⟩ := this
      obtain ⟨lf, hlf, rest⟩ := compose C' _ (ih C' _ (hk C' hC')).2 ρ w f fs cs hρ hO R hnext
      exact ⟨lf, List.mem_flatMap.2 ⟨C', hC', hlf⟩, rest⟩
    · rename_i c hc
      rw [fBE_eq] at h
      obtain ⟨l1, l2, h1, h2, rfl⟩ := Out.app_leaves h
      obtain ⟨p1, r1⟩ := ih _ _ h1
      obtain ⟨p2, r2⟩ := ih _ _ h2
      refine ⟨p1.split p2, ?_⟩
      intro ρ w f fs cs hρ hO R
      cases hd : c.den ρ with
      | true =>
        obtain ⟨lf, hlf, rest⟩ := r1 ρ w f fs cs hρ hO ⟨R.top, R.rest, R.heap, R.names, R.pc.cons hd⟩
        exact ⟨lf, List.mem_append.2 (.inl hlf), rest⟩
      | false =>
        obtain ⟨lf, hlf, rest⟩ := r2 ρ w f fs cs hρ hO ⟨R.top, R.rest, R.heap, R.names, R.pc.cons (by simp [den_not, hd])⟩
        exact ⟨lf, List.mem_append.2 (.inr hlf), rest⟩
    · rename_i v hv
      cases h
      refine ⟨.single _ rfl, ?_⟩
      intro ρ w f fs cs hρ hO R
      have := stepS_ok (sub := runS T n) hT ih hρ hO R n cs
      rw [hv] at this
      obtain ⟨h1, h2, h3, h4⟩ := this
      have hfs : fs = [] := by
        have hr := R.rest
        rw [h1] at hr
        cases hr; rfl
      subst hfs
      exact ⟨_, List.mem_singleton.2 rfl, R.pc, ρ, w, f, .refl _ _, h2, by rw [h3, h1]; rfl, Move.rfl' R.heap R.names, h4⟩
    · cases h
/-- A call, from letters to leaves: in any memory that has grown out of b0 it comes to one of them. -/
theorem calls_of (hT : T.Ok P) {n : Nat} {g : FuncId} {args : List SV} {pc : List BE} {ls : List Leaf} (h : callS T n g args pc = .leaves ls) (hρ : ρ.Ok) (hO : OracOk P b0 T.orac ρ) (hp : Holds ρ pc) (hn : SV.namesL args = []) (hw : b0.grownBy w none) :
    Calls P g (SV.denL ρ args).toArray w fun e w' => ∃ lf ∈ ls, Holds ρ lf.pc ∧ ∃ ρ', Same ρ ρ' ∧ e = .returned (lf.val.den ρ') ∧ w.grownBy w' none ∧ HeapR ρ' b0 lf.heap w' := by
  unfold callS at h
  split at h
  · rename_i F hF
    split at h
    · rename_i c hc
      have hnl : NamesL 0 args := by rw [NamesL.iff, hn]; simp
      have H0 : HeapR ρ b0 [] w := ⟨hw, fun n o hh => by simp [lk_nil] at hh, fun n o hh => by simp [lk_nil] at hh, fun n m o p hh => by simp [lk_nil] at hh⟩
      have R : CfgR ρ b0 { top := frameOf g F c args, rest := [], heap := [], next := 0, pc := pc } w (Frame.enter P g (SV.denL ρ args).toArray .normal) [] :=
        ⟨(enter_R hT hF hc hnl).1, .nil, H0, fun n o hh => by simp [lk_nil] at hh, hp⟩
      intro cs
      obtain ⟨lf, hlf, hh, ρ', w', f', hst, hlv, hfn, hm, hnv⟩ := (runS_ok (b0 := b0) hT n _ _ h).2 ρ w _ [] cs hρ hO R
      refine ⟨.returned (lf.val.den ρ'), w', f', ⟨lf, hlf, hh, ρ', hm.agr.same, rfl, ?_, hm.heap⟩, hst, hfn, hlv⟩
      refine ⟨hm.heap.g0.os.trans hw.os.symm, hm.heap.g0.tape.trans hw.tape.symm, hm.heap.g0.output.trans hw.output.symm, hm.size, fun k hk _ => hm.same k hk (fun n o hh => by simp [lk_nil] at hh)⟩
    · cases h
  · cases h
end
end Go.Proofs.Ytjgkaimgocnkmab.Sx
