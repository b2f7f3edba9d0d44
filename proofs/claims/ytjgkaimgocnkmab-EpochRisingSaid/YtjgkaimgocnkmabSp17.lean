/- A reckoner of Go's small steps over letters: every step, every run. No condition. -/
import Derived.Test.YtjgkaimgocnkmabSp16
set_option linter.unusedVariables false
set_option linter.unusedSimpArgs false
set_option linter.deprecated false
namespace Go.Proofs.Ytjgkaimgocnkmab.Sx
open Go
section
variable {P : Program} {T : Tab} {b0 : World} {sub : Cfg → Out} {ρ : Rho} {w : World} {f : Frame} {fs : List Frame} {C : Cfg}
theorem run_getLoop {l : Nat} {L : Loop} (h : w.heap[l]? = some (.loop L)) : (Instr.getLoop l).run P w = .ok L w := by
  simp [Instr.getLoop, getObj, Sem.run, h]
theorem run_setObj {l : Nat} {o : Obj} {L : Loop} (h : w.heap[l]? = some (.loop L)) : (setObj l o).run P w = .ok () (World.putO w l o) := by
  simp [setObj, Sem.run, h, World.putO]
theorem leave_ok (R : CfgR ρ b0 C w f fs) (hr : C.top.ret = false) (cs : List Frame) (jump : Option Code)
    (hj : ∀ c, jump = some c → codeOk c = true)
    (ht : (C.top.todo = [] ∧ jump = none) ∨ (∃ k, C.top.todo = .code .ret :: k ∧ jump = some .ret) ∨ (∃ id k, C.top.todo = .code (.exit id) :: k ∧ exitS id k = none ∧ jump = some (.exit id)) ∨ (∃ g k, C.top.todo = .code (.goto g) :: k ∧ gotoS g k = none ∧ jump = some (.goto g))) :
    ResOk P T.orac.F b0 ρ C w f fs cs (leaveS C jump) := by
  have hf := frame_run R.top hr
  unfold leaveS
  split
  · rename_i hround
    rw [hround] at hf
    have mk : ResOk P T.orac.F b0 ρ C w f fs cs (.next { C with top := { C.top with ret := true } }) ↔ ResOk P T.orac.F b0 ρ C w f fs cs (.next { C with top := { C.top with ret := true } }) := Iff.rfl
    have go : (∀ cs, step P (lone (fr C.top.fn f.tmps (C.top.todo.map (SItem.den ρ)) (defsOf ρ C.top.defers) none) cs w) = .next (lone { fr C.top.fn f.tmps (C.top.todo.map (SItem.den ρ)) (defsOf ρ C.top.defers) none with mode := .returning } cs w)) →
        ResOk P T.orac.F b0 ρ C w f fs cs (.next { C with top := { C.top with ret := true } }) := by
      intro hst
      refine ⟨rfl, ρ, w, { fr C.top.fn f.tmps (C.top.todo.map (SItem.den ρ)) (defsOf ρ C.top.defers) none with mode := .returning }, fs, ⟨⟨?_, R.top.slots, R.top.names, R.top.items, R.top.defs, R.top.rnd, fun _ => hround⟩, R.rest, R.heap, R.names, R.pc⟩, Move.rfl' R.heap R.names, ?_, (bot_top (b := C.top) (by rfl) C.rest)⟩
      · simp [hround]
      · rw [hf]; exact .one (hst _)
    split
    · refine go fun cs => ?_
      rcases ht with ⟨h1, _⟩ | ⟨k, h1, h2⟩ | ⟨id, k, h1, _, h2⟩ | ⟨g, k, h1, _, h2⟩
      · rw [h1]; exact st_end
      all_goals cases h2
    · refine go fun cs => ?_
      rcases ht with ⟨h1, h2⟩ | ⟨k, h1, h2⟩ | ⟨id, k, h1, _, h2⟩ | ⟨g, k, h1, _, h2⟩
      · cases h2
      · rw [h1]; exact st_ret
      all_goals cases h2
    · trivial
  · rename_i l hround
    rw [hround] at hf
    split
    · rename_i st pend fn tmps ps as body d hl
      obtain ⟨obj, ho, hR⟩ := R.heap.at_ l _ hl
      obtain ⟨X, hX, c1, c2, c3, hobj⟩ := hR
      subst hobj
      have hnm := R.names l _ hl
      have hm := Move.upd R.heap R.names hl (.loop (jst jump) jump fn tmps ps as body d)
        (.loop { state := if jump.isNone then .ready else .done, pending := jump, fn := fn, tmps := X, params := ps.toArray, assign := as, body := body, defers := ρ.a d })
        ⟨X, hX, c1, c2, hj, by cases jump <;> rfl⟩ hnm.2
      have hend : (Instr.endRound (ρ.a l) jump).run P w = .ok (.bool jump.isNone) (World.putO w (ρ.a l) (.loop { state := if jump.isNone then .ready else .done, pending := jump, fn := fn, tmps := X, params := ps.toArray, assign := as, body := body, defers := ρ.a d })) := by
        simp [Instr.endRound, run_getLoop ho, run_setObj ho]
      have hv : (SV.bool (.lit (jb jump))).den ρ = .bool jump.isNone := by cases jump <;> rfl
      split
      · trivial
      · rename_i s0 ss0 hrest
        refine giveBack_ok R hm ?_ cs ?_ ?_
        · intro n hn; simp [SV.names] at hn
        · intro h0; rw [hrest] at h0; cases h0
        · intro c cs
          rw [hf, hv]
          refine st_leave_round hend ?_
          rcases ht with ⟨h1, h2⟩ | ⟨k, h1, h2⟩ | ⟨id, k, h1, h3, h2⟩ | ⟨g, k, h1, h3, h2⟩
          · exact .inl ⟨by rw [h1]; rfl, h2⟩
          · exact .inr (.inl ⟨_, by rw [h1]; rfl, h2⟩)
          · exact .inr (.inr (.inl ⟨id, _, by rw [h1]; rfl, by rw [exitS_den, h3]; rfl, h2⟩))
          · exact .inr (.inr (.inr ⟨g, _, by rw [h1]; rfl, by rw [gotoS_den, h3]; rfl, h2⟩))
    · trivial
theorem frames_push {N : Nat} (R : FrameR ρ N C.top f) (hs : FramesR ρ N C.rest fs) : FramesR ρ N (C.top :: C.rest) (f :: fs) := .cons R hs
theorem valTo_ok (R : CfgR ρ b0 C w f fs) (hr : C.top.ret = false) {ops : Array Oper} {i : Nat} {rest : List Nat} {k : List SItem} (ht : C.top.todo = .inRegion ops (i :: rest) :: k) (cs : List Frame)
    {dst : Option Tmp} {v : SV} {h' : SHeap} {nx' : Nat} {ρ' : Rho} {w' : World} (hm : Move ρ ρ' b0 C.heap h' C.next nx' w w') (hv : NamesV nx' v)
    (hst : Steps P (lone (fr C.top.fn f.tmps (.inRegion ops (i :: rest) :: k.map (SItem.den ρ)) (defsOf ρ C.top.defers) (C.top.round.map ρ.a)) (fs ++ cs) w) (lone (fr C.top.fn (putA f.tmps dst (v.den ρ')) (.inRegion ops rest :: k.map (SItem.den ρ)) (defsOf ρ C.top.defers) (C.top.round.map ρ.a)) (fs ++ cs) w')) :
    ResOk P T.orac.F b0 ρ C w f fs cs (valTo C ops rest k dst v h' nx') := by
  have hf := frame_run R.top hr
  rw [ht] at hf
  have htop := R.top.agr hm.agr hm.le
  have hk : k.map (SItem.den ρ') = k.map (SItem.den ρ) := by
    apply List.map_congr_left
    intro j hj
    have := R.top.items j (by rw [ht]; exact List.mem_cons_of_mem _ hj)
    cases j <;> simp [SItem.den, SItem.okI] at this ⊢ <;> exact hm.agr.a _ (.inl this)
  have hd : defsOf ρ' C.top.defers = defsOf ρ C.top.defers := List.map_congr_left fun n hn => by rw [hm.agr.a n (.inl (R.top.defs n hn))]
  have hrd : C.top.round.map ρ'.a = C.top.round.map ρ.a := by
    cases hq : C.top.round with
    | none => rfl
    | some n => simp [hm.agr.a n (.inl (R.top.rnd n hq))]
  have hag : ∀ i v, get2 C.top.tmps i = some v → ∀ n ∈ v.names, n < C.next ∨ nx' ≤ n := fun i v hv n hn => .inl (R.top.names i v hv n hn)
  refine ⟨rfl, ρ', w', fr C.top.fn (putA f.tmps dst (v.den ρ')) (.inRegion ops rest :: k.map (SItem.den ρ)) (defsOf ρ C.top.defers) (C.top.round.map ρ.a), fs, ⟨⟨?_, ?_, ?_, ?_, htop.defs, htop.rnd, ?_⟩, R.rest.agr hm.agr hm.le, hm.heap, hm.names, (hm.agr.holds).2 R.pc⟩, hm, ?_, (bot_top (b := C.top) (by rfl) C.rest)⟩
  · simp [hr, SItem.den, hk, hd, hrd]
  · have := SlotsR.putD (a := ⟨f.tmps, []⟩) (R.top.slots.agr hm.agr hag) dst v
    cases dst <;> simp only [putA, Act.put, putD] at this ⊢ <;> exact this
  · exact (R.top.names.le hm.le).putD _ hv
  · intro j hj
    rcases List.mem_cons.1 hj with rfl | hj
    · exact R.top.items (.inRegion ops (i :: rest)) (by rw [ht]; exact List.mem_cons_self ..)
    · exact htop.items j (by rw [ht]; exact List.mem_cons_of_mem _ hj)
  · intro h; exact R.top.rr h
  · rw [hf]; exact hst
theorem enter_cfg (hT : T.Ok P) (R : CfgR ρ b0 C w f fs) {g : FuncId} {F : Func} {c : Code} {args : List SV} (hF : T.fn.get g = some F) (hb : F.body = some c) (hn : NamesL C.next args) :
    CfgR ρ b0 { C with top := frameOf g F c args, rest := C.top :: C.rest } w (Frame.enter P g (SV.denL ρ args).toArray .normal) (f :: fs) :=
  ⟨(enter_R hT hF hb hn).1, .cons R.top R.rest, R.heap, R.names, R.pc⟩
theorem enterR_ok (hT : T.Ok P) (hρ : ρ.Ok) (hO : OracOk P b0 T.orac ρ) (R : CfgR ρ b0 C w f fs) (hr : C.top.ret = false) {ops : Array Oper} {i : Nat} {rest : List Nat} {k : List SItem} {o : Oper} (ht : C.top.todo = .inRegion ops (i :: rest) :: k) (ho : ops[i]? = some o) (cs : List Frame)
    {g : FuncId} {args : List SV} (hn : NamesL C.next args)
    (hst : ∀ F, P.funcs[g]? = some F → F.body.isSome = true → (F.name == "runtime.NumGoroutine") = false → ∀ cs, step P (lone f cs w) = .next (lone (Frame.enter P g (SV.denL ρ args).toArray .normal) (f :: cs) w)) :
    ResOk P T.orac.F b0 ρ C w f fs cs (enterR T C ops rest k o.dst g args) := by
  have hf := frame_run R.top hr
  rw [ht] at hf
  unfold enterR
  split
  · rename_i F hF
    obtain ⟨hf1, hf2⟩ := hT.fn g F hF
    split
    · rename_i c hc
      have hst' := hst F hf1 (by rw [hc]; rfl) hf2
      split
      · rename_i oc hoc
        obtain ⟨hm, hg, ha⟩ := findO_ok hoc
        obtain ⟨⟨n1, n2, n3⟩, hcall⟩ := hO.l oc hm
        have hc2 := hcall w R.heap.g0
        rw [hg, ha] at hc2
        have hval : ∀ (v : SV), (if oc.c.den ρ then oc.yes else oc.no) = v → v.names = [] → ResOk P T.orac.F b0 ρ C w f fs cs (valTo C ops rest k o.dst v C.heap C.next) := by
          intro v hv hvn
          obtain ⟨u, w', ⟨hu, hgr⟩, hs⟩ := steps_call hc2 (fun e w' h => ⟨_, h.1⟩) f (fs ++ cs)
          cases hu
          rw [hv] at hs
          refine valTo_ok R hr ht cs (grown_move R.heap R.names hgr) (fun n hn => by rw [hvn] at hn; cases hn) ?_
          have hs2 := Steps.trans (.one (hst' (fs ++ cs))) hs
          have hfin : f.finish (v.den ρ) = fr C.top.fn (putA f.tmps o.dst (v.den ρ)) (.inRegion ops rest :: k.map (SItem.den ρ)) (defsOf ρ C.top.defers) (C.top.round.map ρ.a) := by
            rw [hf]; exact finish_fr ho _
          rw [hfin] at hs2
          rw [hf] at hs2
          exact hs2
        split
        · rename_i hd
          have hd' := dec_den hρ R.pc _ _ hd
          exact hval _ (by simp [hd']) n2
        · rename_i hd
          have hd' := dec_den hρ R.pc _ _ hd
          exact hval _ (by simp [hd']) n3
        · trivial
      · split
        · trivial
        · rename_i u hu
          obtain ⟨cc, hcm, hcf, hcu⟩ := findC_use hu
          obtain ⟨hpost, hcall⟩ := useC_ok (b0 := b0) (w := w) hT.posts hρ R.pc R.names hO R.heap hcm hcu
          rw [hcf] at hcall
          obtain ⟨v, w', ⟨ρ', hv1, hmv, hnv⟩, hs⟩ := steps_call hcall (fun e w' ⟨ρ', h, _⟩ => ⟨_, h⟩) f (fs ++ cs)
          cases hv1
          have hs2 := Steps.trans (.one (hst' (fs ++ cs))) hs
          have hfin : f.finish (u.val.den ρ') = fr C.top.fn (putA f.tmps o.dst (u.val.den ρ')) (.inRegion ops rest :: k.map (SItem.den ρ)) (defsOf ρ C.top.defers) (C.top.round.map ρ.a) := by
            rw [hf]; exact finish_fr ho _
          rw [hfin] at hs2
          rw [hf] at hs2
          have hv := valTo_ok (T := T) R hr ht cs hmv hnv hs2
          obtain ⟨_, ρ3, w3, f3, fs3, R3, hm3, hs3, hb3⟩ := hv
          refine ⟨.more _ rfl (fun ρ g hp => useC_post g hp (hT.posts cc hcm) hcu), _, List.mem_singleton.2 rfl, ρ3, w3, f3, fs3, ⟨R3.top, R3.rest, R3.heap, R3.names, ?_⟩, hm3, hs3, hb3⟩
          have hp3 : Holds ρ3 C.pc := R3.pc
          exact fun p hm => (List.mem_append.1 hm).elim (((hm3.agr.holds).2 hpost) p) (hp3 p)
        · refine ⟨rfl, ρ, w, _, f :: fs, enter_cfg hT R hF hc hn, Move.rfl' R.heap R.names, .one ?_, rfl⟩
          exact hst' _
    · trivial
  · trivial
theorem setParams_ok : ∀ (ps : List Tmp) (vs : List SV) (sl sl' : Slots) (X : Array Value), setParams sl ps vs = some sl' → SlotsR ρ sl X →
    SlotsR ρ sl' ((ps.zip (SV.denL ρ vs)).foldl (fun tm (t, a) => tm.setIfInBounds t a) X) ∧ ps.length = vs.length ∧ ∀ N, SNames N sl → NamesL N vs → SNames N sl' := by
  intro ps
  induction ps with
  | nil =>
    intro vs sl sl' X h hX
    cases vs with
    | nil => simp [setParams] at h; subst h; exact ⟨by simpa using hX, rfl, fun N h _ => h⟩
    | cons v vs => simp [setParams] at h
  | cons p ps ih =>
    intro vs sl sl' X h hX
    cases vs with
    | nil => simp [setParams] at h
    | cons v vs =>
      simp only [setParams] at h
      obtain ⟨h1, h2, h3⟩ := ih vs _ _ _ h (hX.put p v)
      exact ⟨by simpa [SV.denL] using h1, by simp [h2], fun N hs hn => h3 N (hs.put p (hn v (by simp))) (fun u hu => hn u (by simp [hu]))⟩
theorem roundR_ok (R : CfgR ρ b0 C w f fs) (hr : C.top.ret = false) (cs : List Frame) {l : Nat} {args : List SV} (hn : NamesL C.next args) (hl : l < C.next)
    (hst : ∀ (L : Loop) (tm : Array Value), (Instr.yield (ρ.a l) (SV.denL ρ args).toArray).run P w = .ok (.round (ρ.a l) L.fn tm L.assign L.body) w → ∀ cs, step P (lone f cs w) = .next (lone (fr L.fn tm [.code L.assign, .beginRound, .code L.body] [] (some (ρ.a l))) (f :: cs) w)) :
    ResOk P T.orac.F b0 ρ C w f fs cs (roundR C l args) := by
  unfold roundR
  split
  · rename_i st pend fn tmps ps as body d hlk
    obtain ⟨obj, ho, hR⟩ := R.heap.at_ l _ hlk
    obtain ⟨X, hX, c1, c2, c3, hobj⟩ := hR
    subst hobj
    split
    · rename_i tmps' hp
      obtain ⟨h1, h2, h3⟩ := setParams_ok ps args tmps tmps' X hp hX
      have hnm := R.names l _ hlk
      have htn : SNames C.next tmps := ONames.flat (fun m hm => hnm.2 m (by simp only [SObj.names, List.mem_cons]; exact .inr hm))
      have hy : (Instr.yield (ρ.a l) (SV.denL ρ args).toArray).run P w = .ok (.round (ρ.a l) fn ((ps.zip (SV.denL ρ args)).foldl (fun tm (t, a) => tm.setIfInBounds t a) X) as body) w := by
        simp only [Instr.yield, Sem.run_bind, run_getLoop ho, Result.andThen_ok]
        have hsz : ¬ (SV.denL ρ args).toArray.size ≠ ps.toArray.size := by simp [denL_length, h2]
        rw [if_neg hsz]
        simp only [Sem.run_pure]
        congr 2
        rw [← Array.foldl_toList]
        simp
      have hs := hst { state := st, pending := pend, fn := fn, tmps := X, params := ps.toArray, assign := as, body := body, defers := ρ.a d } _ hy
      refine ⟨rfl, ρ, w, fr fn ((ps.zip (SV.denL ρ args)).foldl (fun tm (t, a) => tm.setIfInBounds t a) X) [.code as, .beginRound, .code body] [] (some (ρ.a l)), f :: fs, ⟨⟨?_, h1, h3 _ htn hn, ?_, ?_, ?_, ?_⟩, .cons R.top R.rest, R.heap, R.names, R.pc⟩, Move.rfl' R.heap R.names, .one (hs _), rfl⟩
      · simp [SItem.den, defsOf]
      · intro j hj
        simp only [List.mem_cons, List.not_mem_nil, or_false] at hj
        rcases hj with rfl | rfl | rfl
        · exact c1
        · trivial
        · exact c2
      · intro n hn; cases hn
      · intro n hn; cases hn; exact hl
      · intro h; cases h
    · trivial
  · trivial
theorem stepRegion_ok (hT : T.Ok P) (hρ : ρ.Ok) (hO : OracOk P b0 T.orac ρ) (R : CfgR ρ b0 C w f fs) (hr : C.top.ret = false) {ops : Array Oper} {i : Nat} {rest : List Nat} {k : List SItem} (ht : C.top.todo = .inRegion ops (i :: rest) :: k) (cs : List Frame) :
    ResOk P T.orac.F b0 ρ C w f fs cs (stepRegion T C ops i rest k) := by
  have hf := frame_run R.top hr
  rw [ht] at hf
  have hpl : allPlain ops.toList = true := R.top.items (.inRegion ops (i :: rest)) (by rw [ht]; exact List.mem_cons_self ..)
  unfold stepRegion
  split
  · trivial
  · rename_i o ho
    rw [nth_eq, Array.getElem?_toList] at ho
    have hplo : plainOp o = true := allPlain_ok _ hpl o (List.mem_of_getElem? (by rw [Array.getElem?_toList]; exact ho))
    have hdf := plainOp_defer hplo
    have hw := wanted_run (ops := ops) (o := o) (tm := f.tmps) hρ R.pc (fun t _ => R.top.slots t)
    unfold wantR
    split
    · trivial
    · trivial
    · rename_i hwd
      refine valTo_ok R hr ht cs (Move.rfl' R.heap R.names) (fun n hn => by simp [SV.names, SV.namesL] at hn) ?_
      have := st_op_skip (P := P) (fn := C.top.fn) (k := k.map (SItem.den ρ)) (ds := defsOf ρ C.top.defers) (r := C.top.round.map ρ.a) (cs := fs ++ cs) (w := w) (rest := rest) ho (hw.2 hwd)
      exact .one (by simpa [SV.den, SV.denL, undef] using this)
    · rename_i hwd
      have hwt := hw.1 hwd
      have hop := symOp_ok (P := P) (b0 := b0) (w := w) (a := ⟨f.tmps, defsOf ρ C.top.defers⟩) hT hρ R.pc hO.F hO.rom R.heap R.names R.top.slots R.top.names o
      unfold runR
      split
      · rename_i v h' nx' hv
        rw [hv] at hop
        obtain ⟨ρ', w', nv, h1, h2, h3, h4⟩ := hop
        refine valTo_ok R hr ht cs h3 h4 (.one (st_op_value ho hwt hdf ?_))
        rcases h2 with rfl | ⟨rfl, rfl⟩
        · exact .inl h1
        · exact .inr ⟨h1, by simp [SV.den, SV.denL, undef]⟩
      · rename_i g args hv
        rw [hv] at hop
        refine enterR_ok hT hρ hO R hr ht ho cs hop.2 ?_
        intro F h1 h2 h3 cs
        have := st_op_enter (fn := C.top.fn) (k := k.map (SItem.den ρ)) (ds := defsOf ρ C.top.defers) (r := C.top.round.map ρ.a) (cs := cs) (rest := rest) ho hwt hdf (hop.1 F h1 h2 h3)
        rw [hf]
        exact this
      · rename_i l args hv
        rw [hv] at hop
        obtain ⟨h1, h2, h3⟩ := hop
        refine roundR_ok R hr cs h3 h2 ?_
        intro L tm hy cs
        have := st_op_round (fn := C.top.fn) (k := k.map (SItem.den ρ)) (ds := defsOf ρ C.top.defers) (r := C.top.round.map ρ.a) (cs := cs) (rest := rest) ho hwt hdf (h1.trans hy)
        rw [hf]
        exact this
      · trivial
      · trivial
end
end Go.Proofs.Ytjgkaimgocnkmab.Sx
