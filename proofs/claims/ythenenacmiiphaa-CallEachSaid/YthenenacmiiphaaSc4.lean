/- A reckoner of Go's small steps over letters: a range over a function. No condition. -/
import Derived.Test.YthenenacmiiphaaSp17
set_option linter.unusedVariables false
set_option linter.unusedSimpArgs false
set_option linter.deprecated false
namespace Go.Proofs.Ythenenacmiiphaa.Sx
open Go
section
variable {P : Program} {T : Tab} {b0 : World} {sub : Cfg → Out} {ρ : Rho} {w : World} {f : Frame} {fs : List Frame} {C : Cfg}
set_option maxHeartbeats 1000000 in
theorem range_ok (hT : T.Ok P) (R : CfgR ρ b0 C w f fs) (hr : C.top.md.st = .run) {x : Operand} {ps : Array Tmp} {as body : Code} {k : List SItem} (ht : C.top.todo = .code (.rangeFunc x ps as body) :: k) (cs : List Frame) :
  ResOk P T.orac.F b0 ρ C w f fs cs (stepRange T C x ps as body k) := by
 have hf := frame_run R.top hr
 rw [ht] at hf
 have hcode : codeOk (.rangeFunc x ps as body) = true := R.top.items (.code (.rangeFunc x ps as body)) (by rw [ht]; exact List.mem_cons_self ..)
 simp only [codeOk] at hcode
 split at hcode
 case isFalse => cases hcode
 rename_i hca
 have hxn := ev_names R.top.names x
 have hSN := ONames.back R.top.names
 have hcall : ∀ (g : FuncId) (F : Func) (fv : Value) (first captured : List SV) (ρ' : Rho) (l : Nat) (w' : World) (mk : List Deferred), Act.eval ⟨f.tmps, mk ++ dfs ρ C.top⟩ x = (SV.func (.func g) first captured).den ρ' → T.fn.get g = some F → F.body.isSome = true →
   ((do let d ← resolve (Act.eval ⟨f.tmps, mk ++ dfs ρ C.top⟩) { callee := .value x, args := #[.const (.func (.yield l) #[] #[])], argTypes := #[] } 0; invoke d.target d.args) : Sem Next).run P w' =
    .ok (.enter g ((SV.denL ρ' first).toArray ++ #[.func (.yield l) #[] #[]] ++ (SV.denL ρ' captured).toArray)) w' := by
  intro g F fv first captured ρ' l w' mk he hF hb
  obtain ⟨h1, h2⟩ := hT.fn g F hF
  have hb' : ¬ F.body = none := by intro hh; simp [hh] at hb
  have h2' : ¬ F.name = "runtime.NumGoroutine" := by simpa using h2
  have hcn : Act.eval ⟨f.tmps, mk ++ dfs ρ C.top⟩ (.const (.func (.yield l) #[] #[])) = .func (.yield l) #[] #[] := rfl
  generalize Act.eval ⟨f.tmps, mk ++ dfs ρ C.top⟩ = E at he hcn
  simp [resolve, he, hcn, SV.den, fnDen, Deferred.ofValue, invoke, callFunc, h1, h2', hb']
 unfold stepRange
 split
 ·rename_i g first captured hx
  rw [hx] at hxn
  have hfn : ∀ N, C.next ≤ N → ∀ n, n < N → NamesL N (first ++ [.func (.yield n) [] []] ++ captured) := by
   intro N hN n hn v hv
   rcases List.mem_append.1 hv with hv | hv
   ·rcases List.mem_append.1 hv with hv | hv
    ·exact fun m hm => Nat.lt_of_lt_of_le (hxn m (by simp only [SV.names, List.mem_append]; exact .inl (mem_namesL.2 ⟨v, hv, hm⟩))) hN
    ·simp at hv
     subst hv
     intro m hm
     simp [SV.names, SV.namesL] at hm
     subst hm; exact hn
   ·exact fun m hm => Nat.lt_of_lt_of_le (hxn m (by simp only [SV.names, List.mem_append]; exact .inr (mem_namesL.2 ⟨v, hv, hm⟩))) hN
  split
  ·rename_i hround
   have hrd0 : (rk ρ C.top).rd = none := by simp [rk, hround]
   have m1 := Move.new R.heap R.names (.defd true) (.deferred (some [])) (by simp [ObjR]) (by simp [SObj.names])
   have hSl1 : SlotsR (ρ.set C.next w.heap.size) C.top.tmps f.tmps := R.top.slots.agr m1.agr (fun i v hv n hn => .inl (R.top.names i v hv n hn))
   have m2 := Move.new m1.heap m1.names (.loop .ready none C.top.fn C.top.tmps ps.toList as body C.next)
    (.loop { state := .ready, pending := none, fn := C.top.fn, tmps := f.tmps, params := ps, assign := as, body := body, defers := w.heap.size })
    ⟨f.tmps, hSl1, hca, hcode, fun c hc => (by cases hc), by simp [Rho.set_a]⟩ (by
     intro m hm
     simp only [SObj.names, List.mem_cons] at hm
     rcases hm with rfl | hm
     ·omega
     ·have := hSN m hm; omega)
   have hm := Move.trans m1 m2 R.names
   unfold enterS
   split
   ·rename_i F hF
    split
    ·rename_i c hc
     have e1 : ((ρ.set C.next w.heap.size).set (C.next + 1) (w.alloc (.deferred (some []))).heap.size).a (C.next + 1) = w.heap.size + 1 := by
      rw [Rho.set_a]; show (w.heap.push _).size = _; simp
     have e2 : ((ρ.set C.next w.heap.size).set (C.next + 1) (w.alloc (.deferred (some []))).heap.size).a C.next = w.heap.size := by
      simp [Rho.set]
     generalize hρ2 : (ρ.set C.next w.heap.size).set (C.next + 1) (w.alloc (.deferred (some []))).heap.size = ρ2 at hm e1 e2
     have htop := R.top.agr hm.agr hm.le
     have hk : k.map (SItem.den ρ2) = k.map (SItem.den ρ) := by
      apply List.map_congr_left
      intro j hj
      have := R.top.items j (by rw [ht]; exact List.mem_cons_of_mem _ hj)
      cases j <;> simp [SItem.den, SItem.okI] at this ⊢ <;> exact hm.agr.a _ (.inl this)
     have hd : dfs ρ2 C.top = dfs ρ C.top := dfs_agr hm.agr R.top.defs R.top.mn
     have hargs : (SV.denL ρ2 (first ++ [.func (.yield (C.next + 1)) [] []] ++ captured)).toArray = (SV.denL ρ2 first).toArray ++ #[.func (.yield (w.heap.size + 1)) #[] #[]] ++ (SV.denL ρ2 captured).toArray := by
      simp [denL_append, SV.denL, SV.den, fnDen, e1]
     have hn2 := hfn (C.next + 1 + 1) (by omega) (C.next + 1) (by omega)
     have hent := enter_R (P := P) (ρ := ρ2) hT hF hc hn2
     refine ⟨rfl, ρ2, _, Frame.enter P g (SV.denL ρ2 (first ++ [.func (.yield (C.next + 1)) [] []] ++ captured)).toArray .normal,
      fr C.top.fn f.tmps (.inRangeFunc (w.heap.size + 1) :: k.map (SItem.den ρ)) ({ target := .collected w.heap.size, args := #[] } :: dfs ρ C.top) (rk ρ C.top) :: fs,
      ⟨hent.1, .cons ⟨?_, htop.slots, htop.names, ?_, ?_, htop.rnd, fun h => R.top.rr h, htop.mn⟩ (R.rest.agr hm.agr hm.le), hm.heap, hm.names, (hm.agr.holds).2 R.pc⟩, hm, ?_, (by show bot _ C.rest = _; exact bot_top (b := C.top) (by rfl) C.rest)⟩
     ·show _ = ({ fr C.top.fn _ _ ({ target := .collected (ρ2.a C.next), args := #[] } :: dfs ρ2 C.top) (rk ρ2 C.top) with mode := ssDen ρ2 C.top.md.st } : Frame)
      have hrd : rk ρ2 C.top = rk ρ C.top := rk_agr hm.agr R.top.rnd
      simp [hr, SItem.den, e1, hk, hd, hrd, e2, ssDen]
     ·intro j hj
      rcases List.mem_cons.1 hj with rfl | hj
      ·show C.next + 1 < C.next + 1 + 1; omega
      ·exact htop.items j (by rw [ht]; exact List.mem_cons_of_mem _ hj)
     ·intro n hn
      rcases List.mem_cons.1 hn with rfl | hn
      ·show C.next < C.next + 1 + 1; omega
      ·exact htop.defs n hn
     ·rw [hf]
      have hev : Act.eval ⟨f.tmps, [{ target := .collected w.heap.size, args := #[] }] ++ dfs ρ C.top⟩ x = (SV.func (.func g) first captured).den ρ2 := by
       rw [ev_den (a := ⟨f.tmps, _⟩) htop.slots x, hx]
      refine .one ?_
      rw [hargs]
      refine st_range (l := w.heap.size + 1) (mk := [{ target := .collected w.heap.size, args := #[] }]) ?_ (hcall g F .nilFunc first captured ρ2 _ _ _ hev hF (by rw [hc]; rfl))
      simp [Instr.enterLoop, newObj, Sem.run, hrd0]
    ·trivial
   ·trivial
  ·rename_i l hround
   have hrd0 : (rk ρ C.top).rd = some (ρ.a l) := by simp [rk, hround]
   split
   ·rename_i st0 pend0 fn0 tmps0 ps0 as0 body0 d hl
    obtain ⟨obj, ho, hR⟩ := R.heap.at_ l _ hl
    obtain ⟨X0, hX0, _, _, _, hobj⟩ := hR
    subst hobj
    have hdn : d < C.next := (R.names l _ hl).2 d (by simp [SObj.names])
    have m1 := Move.new R.heap R.names (.loop .ready none C.top.fn C.top.tmps ps.toList as body d)
     (.loop { state := .ready, pending := none, fn := C.top.fn, tmps := f.tmps, params := ps, assign := as, body := body, defers := ρ.a d })
     ⟨f.tmps, R.top.slots, hca, hcode, fun c hc => (by cases hc), by simp⟩ (by
      intro m hm
      simp only [SObj.names, List.mem_cons] at hm
      rcases hm with rfl | hm
      ·exact hdn
      ·exact hSN m hm)
    unfold enterS
    split
    ·rename_i F hF
     split
     ·rename_i c hc
      have e1 : (ρ.set C.next w.heap.size).a C.next = w.heap.size := Rho.set_a _ _ _
      generalize hρ2 : ρ.set C.next w.heap.size = ρ2 at m1 e1
      have htop := R.top.agr m1.agr m1.le
      have hk : k.map (SItem.den ρ2) = k.map (SItem.den ρ) := by
       apply List.map_congr_left
       intro j hj
       have := R.top.items j (by rw [ht]; exact List.mem_cons_of_mem _ hj)
       cases j <;> simp [SItem.den, SItem.okI] at this ⊢ <;> exact m1.agr.a _ (.inl this)
      have hd : dfs ρ2 C.top = dfs ρ C.top := dfs_agr m1.agr R.top.defs R.top.mn
      have hl2 : ρ2.a l = ρ.a l := m1.agr.a l (.inl (R.top.rnd l hround))
      have hargs : (SV.denL ρ2 (first ++ [.func (.yield C.next) [] []] ++ captured)).toArray = (SV.denL ρ2 first).toArray ++ #[.func (.yield w.heap.size) #[] #[]] ++ (SV.denL ρ2 captured).toArray := by
       simp [denL_append, SV.denL, SV.den, fnDen, e1]
      have hn2 := hfn (C.next + 1) (by omega) C.next (by omega)
      have hent := enter_R (P := P) (ρ := ρ2) hT hF hc hn2
      refine ⟨rfl, ρ2, _, Frame.enter P g (SV.denL ρ2 (first ++ [.func (.yield C.next) [] []] ++ captured)).toArray .normal,
       fr C.top.fn f.tmps (.inRangeFunc w.heap.size :: k.map (SItem.den ρ)) (dfs ρ C.top) (rk ρ C.top) :: fs,
       ⟨hent.1, .cons ⟨?_, htop.slots, htop.names, ?_, htop.defs, htop.rnd, fun h => R.top.rr h, htop.mn⟩ (R.rest.agr m1.agr m1.le), m1.heap, m1.names, (m1.agr.holds).2 R.pc⟩, m1, ?_, (by show bot _ C.rest = _; exact bot_top (b := C.top) (by rfl) C.rest)⟩
      ·show _ = ({ fr C.top.fn _ _ (dfs ρ2 C.top) (rk ρ2 C.top) with mode := ssDen ρ2 C.top.md.st } : Frame)
       have hrd : rk ρ2 C.top = rk ρ C.top := rk_agr m1.agr R.top.rnd
       simp [hr, SItem.den, e1, hk, hd, hrd, ssDen]
      ·intro j hj
       rcases List.mem_cons.1 hj with rfl | hj
       ·show C.next < C.next + 1; omega
       ·exact htop.items j (by rw [ht]; exact List.mem_cons_of_mem _ hj)
      ·rw [hf]
       have hev : Act.eval ⟨f.tmps, [] ++ dfs ρ C.top⟩ x = (SV.func (.func g) first captured).den ρ2 := by
        rw [ev_den (a := ⟨f.tmps, _⟩) htop.slots x, hx]
       refine .one ?_
       rw [hargs]
       refine st_range (l := w.heap.size) (mk := []) ?_ (hcall g F .nilFunc first captured ρ2 _ _ _ hev hF (by rw [hc]; rfl))
       simp [Instr.enterLoop, run_getLoop ho, newObj, Sem.run, hrd0]
     ·trivial
    ·trivial
   ·trivial
 ·trivial
end
end Go.Proofs.Ythenenacmiiphaa.Sx
namespace Go.Proofs.Ythenenacmiiphaa.Sx
open Go
section
variable {P : Program} {T : Tab} {b0 : World} {sub : Cfg → Out} {ρ : Rho} {w : World} {f : Frame} {fs : List Frame} {C : Cfg}
theorem todoU_ok (R : CfgR ρ b0 C w f fs) (hr : C.top.md.st = .run) {i : SItem} {k0 k : List SItem} (ht : C.top.todo = i :: k0) (cs : List Frame) {h' : SHeap} {w' : World} (hm : Move ρ ρ b0 C.heap h' C.next C.next w w')
  (hst : step P (lone (fr C.top.fn f.tmps (i.den ρ :: k0.map (SItem.den ρ)) (dfs ρ C.top) (rk ρ C.top)) (fs ++ cs) w) = .next (lone (fr C.top.fn f.tmps (k.map (SItem.den ρ)) (dfs ρ C.top) (rk ρ C.top)) (fs ++ cs) w'))
  (hk : ∀ j ∈ k, j.okI C.next) : ResOk P T.orac.F b0 ρ C w f fs cs (.next { C with top := { C.top with todo := k }, heap := h' }) := by
 have hf := frame_run R.top hr
 rw [ht] at hf
 refine ⟨rfl, ρ, w', fr C.top.fn f.tmps (k.map (SItem.den ρ)) (dfs ρ C.top) (rk ρ C.top), fs, ⟨⟨?_, R.top.slots, R.top.names, hk, R.top.defs, R.top.rnd, ?_, R.top.mn⟩, R.rest, hm.heap, hm.names, R.pc⟩, hm, ?_, (bot_top (b := C.top) (by rfl) C.rest)⟩
 ·simp [hr, dfs, rk, ssDen]
 ·intro h; exact R.top.rr h
 ·rw [hf]; exact .one hst
theorem endRange_ok (R : CfgR ρ b0 C w f fs) (hr : C.top.md.st = .run) {l : Nat} {k : List SItem} (ht : C.top.todo = .endRange l :: k) (cs : List Frame) : ResOk P T.orac.F b0 ρ C w f fs cs (endRangeStep C l k) := by
 unfold endRangeStep
 split
 ·rename_i st pend fn tmps ps as body d hl
  obtain ⟨obj, ho, hR⟩ := R.heap.at_ l _ hl
  obtain ⟨X, hX, c1, c2, c3, hobj⟩ := hR
  subst hobj
  have hnm := R.names l _ hl
  split
  ·trivial
  ·rename_i hb
   have hst : ¬ st = .busy := by rintro rfl; simp [stLoop] at hb
   have hm := Move.upd R.heap R.names hl (.loop .exhausted pend fn tmps ps as body d)
    (.loop { state := .exhausted, pending := pend, fn := fn, tmps := X, params := ps.toArray, assign := as, body := body, defers := ρ.a d }) ⟨X, hX, c1, c2, c3, rfl⟩ hnm.2
   have hend : (Instr.endLoop (ρ.a l)).run P w = .ok pend (World.putO w (ρ.a l) (.loop { state := .exhausted, pending := pend, fn := fn, tmps := X, params := ps.toArray, assign := as, body := body, defers := ρ.a d })) := by
    simp [Instr.endLoop, run_getLoop ho, run_setObj ho, hst]
   refine todoU_ok R hr ht cs hm ?_ ?_
   ·have := st_endRange (fn := C.top.fn) (tmps := f.tmps) (k := k.map (SItem.den ρ)) (ds := dfs ρ C.top) (r := rk ρ C.top) (cs := fs ++ cs) hend
    simp only [SItem.den]
    rw [this]
    cases pend <;> simp [SItem.den]
   ·intro j hj
    rcases List.mem_append.1 hj with hj | hj
    ·cases pend with
     | none => simp at hj
     | some c =>
      simp at hj
      subst hj
      exact c3 c rfl
    ·exact R.top.items j (by rw [ht]; exact List.mem_cons_of_mem _ hj)
 ·trivial
theorem begin_ok (R : CfgR ρ b0 C w f fs) (hr : C.top.md.st = .run) {k : List SItem} (ht : C.top.todo = .beginRound :: k) (cs : List Frame) : ResOk P T.orac.F b0 ρ C w f fs cs (beginStep C k) := by
 unfold beginStep
 split
 ·rename_i l hround
  split
  ·rename_i pend fn tmps ps as body d hl
   obtain ⟨obj, ho, hR⟩ := R.heap.at_ l _ hl
   obtain ⟨X, hX, c1, c2, c3, hobj⟩ := hR
   subst hobj
   have hnm := R.names l _ hl
   have hm := Move.upd R.heap R.names hl (.loop .busy pend fn tmps ps as body d)
    (.loop { state := .busy, pending := pend, fn := fn, tmps := X, params := ps.toArray, assign := as, body := body, defers := ρ.a d }) ⟨X, hX, c1, c2, c3, rfl⟩ hnm.2
   have hb : (Instr.beginRound (ρ.a l)).run P w = .ok () (World.putO w (ρ.a l) (.loop { state := .busy, pending := pend, fn := fn, tmps := X, params := ps.toArray, assign := as, body := body, defers := ρ.a d })) := by
    simp [Instr.beginRound, run_getLoop ho, run_setObj ho]
   refine todoU_ok R hr ht cs hm ?_ ?_
   ·simp only [SItem.den, rk, hround, Option.map_some]
    exact st_begin hb
   ·intro j hj
    exact R.top.items j (by rw [ht]; exact List.mem_cons_of_mem _ hj)
  ·trivial
 ·trivial
theorem many_pc {F : Fns} {pc : List BE} {ls : List RLeaf} (hpc : PcOk F RLeaf.pc pc ls) (g : RLeaf → Cfg) (hg : ∀ r, (g r).pc = r.pc) : PcOk F Cfg.pc pc (ls.map g) := by
 refine ⟨fun ρ2 gd hp => ?_, ?_, ?_⟩
 ·obtain ⟨x, hx, hxh⟩ := hpc.some ρ2 gd hp
  exact ⟨g x, List.mem_map.2 ⟨x, hx, rfl⟩, by rw [hg]; exact hxh⟩
 ·intro ρ2 x hx hxh
  obtain ⟨y, hy, rfl⟩ := List.mem_map.1 hx
  rw [hg] at hxh
  exact hpc.back ρ2 y hy hxh
 ·intro ρ2 x hx y hy hxh hyh
  obtain ⟨x', hx', rfl⟩ := List.mem_map.1 hx
  obtain ⟨y', hy', rfl⟩ := List.mem_map.1 hy
  rw [hg] at hxh hyh
  rw [hpc.one ρ2 x' hx' y' hy' hxh hyh]
theorem goP_pc (C : Cfg) (k : List SItem) (ms : List Nat) (f : SFrame) (fs : List SFrame) (r : RLeaf) : (goP C k ms f fs r).pc = r.pc := by
 unfold goP; split <;> rfl
theorem goOn_ok (R : CfgR ρ b0 C w f fs) (hr : C.top.md.st = .run) {k : List SItem} (hks : ∀ j ∈ k, j.okI C.next) (cs : List Frame) {rl : RLeaf} {ρ' : Rho} {w' : World} {tm' : Array Value} (hh : Holds ρ rl.pc)
  (hst : Steps P (lone f (fs ++ cs) w) (lone (fr C.top.fn tm' (k.map (SItem.den ρ)) (dfs ρ C.top) (rk ρ C.top)) (fs ++ cs) w'))
  (h1 : SlotsR ρ' rl.sl tm') (h2 : SNames rl.next rl.sl) (hm : Move ρ ρ' b0 C.heap rl.heap C.next rl.next w w') : NextOk P b0 ρ C w f fs cs (goOn C k rl) := by
 have htop := R.top.agr hm.agr hm.le
 have hk : k.map (SItem.den ρ') = k.map (SItem.den ρ) := by
  apply List.map_congr_left
  intro j hj
  have := hks j hj
  cases j <;> simp [SItem.den, SItem.okI] at this ⊢ <;> exact hm.agr.a _ (.inl this)
 have hd : dfs ρ' C.top = dfs ρ C.top := dfs_agr hm.agr R.top.defs R.top.mn
 have hrd : rk ρ' C.top = rk ρ C.top := rk_agr hm.agr R.top.rnd
 refine ⟨ρ', w', fr C.top.fn tm' (k.map (SItem.den ρ)) (dfs ρ C.top) (rk ρ C.top), fs, ⟨⟨?_, h1, h2, ?_, htop.defs, htop.rnd, ?_, htop.mn⟩, R.rest.agr hm.agr hm.le, hm.heap, hm.names, (hm.agr.holds).2 hh⟩, hm, hst, (bot_top (b := C.top) (by rfl) C.rest)⟩
 ·show _ = ({ fr C.top.fn _ _ (dfs ρ' C.top) (rk ρ' C.top) with mode := ssDen ρ' C.top.md.st } : Frame)
  simp [goOn, hr, hk, hd, hrd, ssDen]
 ·intro j hj
  have := hks j hj
  cases j with
  | inRange l => exact Nat.lt_of_lt_of_le this hm.le
  | endRange l => exact Nat.lt_of_lt_of_le this hm.le
  | _ => exact this
 ·intro h; exact R.top.rr h
theorem canUp_ok {p : SFrame × List SFrame} (h : canUp T C = some p) : (∃ F, T.fn.get C.top.fn = some F) ∧ C.top.defers = [] ∧ C.top.md.dcs = [] ∧ C.rest = p.1 :: p.2 ∧ p.1.md.st = .run := by
 unfold canUp at h
 split at h
 ·rename_i F hF
  split at h
  ·rename_i s ss hd hdc hrest
   split at h
   ·rename_i hrun
    cases h
    exact ⟨⟨F, hF⟩, hd, hdc, hrest, hrun⟩
   ·cases h
  ·cases h
 ·cases h
theorem goUp_ok (hT : T.Ok P) (R : CfgR ρ b0 C w f fs) {s : SFrame} {ss : List SFrame} (hc : canUp T C = some (s, ss)) (cs : List Frame) {k : List SItem} {ms : List Nat} {q : PJ} {rl : RLeaf} (hq : rl.pj = some q) {ρ' : Rho} {w' : World} {tm' : Array Value} {td : List Item} (hh : Holds ρ rl.pc)
  (hst : Steps P (lone f (fs ++ cs) w) (lone { fr C.top.fn tm' td (dfs ρ C.top) (rk ρ C.top) with mode := .panicking [{ v := q.v.den ρ', recovered := false }] } (fs ++ cs) w'))
  (hnv : NamesV rl.next q.v) (hm : Move ρ ρ' b0 C.heap (finP ms q rl.effs C.heap) C.next rl.next w w') : NextOk P b0 ρ C w f fs cs (goP C k ms s ss rl) := by
 obtain ⟨⟨F, hF⟩, hd, hdc, hrest, hrun⟩ := canUp_ok hc
 obtain ⟨hF1, _⟩ := hT.fn _ _ hF
 have hlv : ({ fr C.top.fn tm' td (dfs ρ C.top) (rk ρ C.top) with mode := .panicking [{ v := q.v.den ρ', recovered := false }] } : Frame).leaving P w' (.panicked [{ v := q.v.den ρ', recovered := false }]) := by
  refine ⟨rfl, ?_, F, hF1⟩
  show dfs ρ C.top = []
  simp [dfs, hd, hdc, defsOf, dcOf]
 have hRr := R.rest.agr hm.agr hm.le
 rw [hrest] at hRr
 cases hRr with
 | cons hs hss =>
  rename_i c fs'
  have hcm : c.mode = .run := by
   have := congrArg Frame.mode hs.eq
   rw [hrun] at this
   simpa [ssDen] using this
  have hgp : goP C k ms s ss rl = { top := { s with md := s.md.to (.pan q.v false) }, rest := ss, heap := finP ms q rl.effs C.heap, next := rl.next, pc := rl.pc } := by
   unfold goP; rw [hq]
  rw [hgp]
  refine ⟨ρ', w', { c with mode := .panicking [{ v := q.v.den ρ', recovered := false }] }, fs', ⟨⟨?_, hs.slots, hs.names, hs.items, hs.defs, hs.rnd, fun h => (by cases h), ⟨fun v' r h => by cases h; exact hnv, hs.mn.dcs⟩⟩, hss, hm.heap, hm.names, (hm.agr.holds).2 hh⟩, hm, Steps.trans hst (.one ?_), ?_⟩
  ·exact congrArg (fun x : Frame => { x with mode := .panicking [{ v := q.v.den ρ', recovered := false }] }) hs.eq
  ·have := step_leave_panicked (P := P) (c := c) (cs := fs' ++ cs) hlv
   rw [Frame.raise_mode] at this
   simpa [raised, hcm] using this
  ·show bot _ ss = bot C.top C.rest
   rw [hrest]; exact bot_top (by rfl) ss
theorem draw_ok (hT : T.Ok P) (hs : SubOk P b0 T.orac sub) (hρ : ρ.Ok) (hO : OracOk P b0 T.orac ρ) (R : CfgR ρ b0 C w f fs) (hr : C.top.md.st = .run) {id : Nat} {ops : Array Oper} {k : List SItem} (ht : C.top.todo = .code (.region id ops true) :: k) (fuel : Nat) (cs : List Frame) :
  ResOk P T.orac.F b0 ρ C w f fs cs (drawStep T sub fuel C ops k) := by
 have hf := frame_run R.top hr
 rw [ht] at hf
 have hops : slotsOk ops = true := R.top.items (.code (.region id ops true)) (by rw [ht]; exact List.mem_cons_self ..)
 have hks : ∀ j ∈ k, j.okI C.next := fun j hj => R.top.items j (by rw [ht]; exact List.mem_cons_of_mem _ hj)
 unfold drawStep
 split
 ·rename_i ls hls
  obtain ⟨hpc, rl, hrl, hh, hA, hB⟩ := region_ok hT hs hρ hO hops R.pc R.heap R.names R.top.slots R.top.names hls C.top.fn id (k.map (SItem.den ρ)) (dfs ρ C.top) (rk ρ C.top) (fs ++ cs)
  have hA' : rl.pj = none → NextOk P b0 ρ C w f fs cs (goOn C k rl) := by
   intro hq
   obtain ⟨ρ', w', tm', hst, h1, h2, hm⟩ := hA hq
   exact goOn_ok R hr hks cs hh (by rw [hf]; exact hst) h1 h2 hm
  unfold drawUp
  split
  ·rename_i hnp
   exact ⟨many_pc hpc _ (fun _ => rfl), goOn C k rl, List.mem_map.2 ⟨rl, hrl, rfl⟩, hA' (noPj_ok hnp rl hrl)⟩
  ·split
   ·rename_i p hp
    obtain ⟨s, ss⟩ := p
    rw [fL_eq]
    refine ⟨many_pc hpc _ (fun r => goP_pc ..), goP C k _ s ss rl, List.mem_map.2 ⟨rl, hrl, rfl⟩, ?_⟩
    cases hq : rl.pj with
    | none =>
     have : goP C k (masks ops.toList []) s ss rl = goOn C k rl := by unfold goP; rw [hq]
     rw [this]; exact hA' hq
    | some q =>
     obtain ⟨ρ', w', tm', td, hst, h1, hm⟩ := hB q hq
     exact goUp_ok hT R hp cs hq hh (by rw [hf]; exact hst) h1 hm
   ·trivial
 ·rename_i n _
  rw [fnat_eq]
  generalize cutAt T sub fuel C.pc ops.toList C.top.tmps C.heap C.next ops.toList.length 0 = p
  unfold drawPre
  split
  ·rename_i ls hls
   obtain ⟨hpc, rl, hrl, hh, ρ', w', tm', hst, h1, h2, hm⟩ := region_pre hT hs hρ hO hops R.pc R.heap R.names R.top.slots R.top.names hls C.top.fn id (k.map (SItem.den ρ)) (dfs ρ C.top) (rk ρ C.top) (fs ++ cs)
   refine ⟨many_pc hpc _ (fun _ => rfl), goOn C (.inRegion ops (rangeS (ops.toList.length - p) p) :: k) rl, List.mem_map.2 ⟨rl, hrl, rfl⟩, ?_⟩
   refine goOn_ok R hr ?_ cs hh (by rw [hf]; exact hst) h1 h2 hm
   intro j hj
   rcases List.mem_cons.1 hj with rfl | hj
   ·trivial
   ·exact hks j hj
  ·trivial
theorem cond_ok (hρ : ρ.Ok) (R : CfgR ρ b0 C w f fs) (hr : C.top.md.st = .run) {c : Operand} {a b : Code} {k : List SItem} (ht : C.top.todo = .code (.cond c a b) :: k) (cs : List Frame) : ResOk P T.orac.F b0 ρ C w f fs cs (condStep C c a b k) := by
 have hcode : codeOk (.cond c a b) = true := R.top.items (.code (.cond c a b)) (by rw [ht]; exact List.mem_cons_self ..)
 simp only [codeOk] at hcode
 split at hcode
 case isFalse => cases hcode
 rename_i hca
 have hk : ∀ j ∈ k, j.okI C.next := fun j hj => R.top.items j (by rw [ht]; exact List.mem_cons_of_mem _ hj)
 unfold condStep
 split
 ·rename_i t hv
  have hev : Act.eval ⟨f.tmps, dfs ρ C.top⟩ c = .bool (t.den ρ) := by rw [ev_den (a := ⟨f.tmps, _⟩) R.top.slots c, hv]; rfl
  split
  ·rename_i hd
   rw [dec_den hρ R.pc _ _ hd] at hev
   refine todo_ok R hr ht cs (fun cs => ?_) ?_
   ·have := st_cond (P := P) (fn := C.top.fn) (k := k.map (SItem.den ρ)) (r := rk ρ C.top) (cs := cs) (w := w) (x := a) (y := b) hev
    simpa [SItem.den] using this
   ·intro j hj
    rcases List.mem_cons.1 hj with rfl | hj
    ·exact hca
    ·exact hk j hj
  ·rename_i hd
   rw [dec_den hρ R.pc _ _ hd] at hev
   refine todo_ok R hr ht cs (fun cs => ?_) ?_
   ·have := st_cond (P := P) (fn := C.top.fn) (k := k.map (SItem.den ρ)) (r := rk ρ C.top) (cs := cs) (w := w) (x := a) (y := b) hev
    simpa [SItem.den] using this
   ·intro j hj
    rcases List.mem_cons.1 hj with rfl | hj
    ·exact hcode
    ·exact hk j hj
  ·trivial
 ·trivial
theorem rangeS_eq : ∀ (n i : Nat), rangeS n i = List.range' i n
 | 0, i => rfl
 | n + 1, i => by simp [rangeS, List.range'_succ, rangeS_eq n (i + 1)]
theorem code_ok (hT : T.Ok P) (hs : SubOk P b0 T.orac sub) (hρ : ρ.Ok) (hO : OracOk P b0 T.orac ρ) (R : CfgR ρ b0 C w f fs) (hr : C.top.md.st = .run) {c : Code} {k : List SItem} (ht : C.top.todo = .code c :: k) (fuel : Nat) (cs : List Frame) :
  ResOk P T.orac.F b0 ρ C w f fs cs (codeStep T sub fuel C c k) := by
 have hcode : codeOk c = true := R.top.items (.code c) (by rw [ht]; exact List.mem_cons_self ..)
 have hk : ∀ j ∈ k, j.okI C.next := fun j hj => R.top.items j (by rw [ht]; exact List.mem_cons_of_mem _ hj)
 have hk1 : ∀ (i : SItem), i.okI C.next → ∀ j ∈ i :: k, j.okI C.next := by
  intro i hi j hj
  rcases List.mem_cons.1 hj with rfl | hj
  ·exact hi
  ·exact hk j hj
 have hk2 : ∀ (i i2 : SItem), i.okI C.next → i2.okI C.next → ∀ j ∈ i :: i2 :: k, j.okI C.next := by
  intro i i2 hi hi2 j hj
  rcases List.mem_cons.1 hj with rfl | hj
  ·exact hi
  ·exact hk1 i2 hi2 j hj
 cases c with
 | skip => exact todo_ok R hr ht cs (fun cs => st_skip) hk
 | label l => exact todo_ok R hr ht cs (fun cs => st_label) hk
 | seq a b =>
  simp only [codeOk] at hcode
  split at hcode
  ·rename_i ha; exact todo_ok R hr ht cs (fun cs => st_seq) (hk2 _ _ ha hcode)
  ·cases hcode
 | cond c a b => exact cond_ok hρ R hr ht cs
 | block id b => exact todo_ok R hr ht cs (fun cs => st_block) (hk2 _ _ hcode trivial)
 | loop b => exact todo_ok R hr ht cs (fun cs => st_loop) (hk2 _ _ hcode hcode)
 | scope b => exact todo_ok R hr ht cs (fun cs => st_scope) (hk2 _ _ hcode hcode)
 | exit id =>
  simp only [codeStep, exitStep]
  split
  ·rename_i k' hk'
   exact todo_ok R hr ht cs (fun cs => st_exit (by rw [exitS_den, hk']; rfl)) (exitS_ok id k k' hk' hk)
  ·rename_i hk'
   exact leave_ok R hr cs _ (by intro c hc; cases hc; rfl) (.inr (.inr (.inl ⟨id, k, ht, hk', rfl⟩)))
 | goto l =>
  simp only [codeStep, gotoStep]
  split
  ·rename_i k' hk'
   exact todo_ok R hr ht cs (fun cs => st_goto (by rw [gotoS_den, hk']; rfl)) (gotoS_ok l k k' hk' hk)
  ·rename_i hk'
   exact leave_ok R hr cs _ (by intro c hc; cases hc; rfl) (.inr (.inr (.inr ⟨l, k, ht, hk', rfl⟩)))
 | ret => exact leave_ok R hr cs _ (by intro c hc; cases hc; rfl) (.inr (.inl ⟨k, ht, rfl⟩))
 | rangeFunc x ps a b => exact range_ok hT R hr ht cs
 | refuse s => trivial
 | region id ops d =>
  cases d with
  | false =>
   refine todo_ok R hr ht cs (fun cs => ?_) (hk1 _ trivial)
   have := st_region (P := P) (fn := C.top.fn) (tmps := f.tmps) (k := k.map (SItem.den ρ)) (ds := dfs ρ C.top) (r := rk ρ C.top) (cs := cs) (w := w) (id := id) (ops := ops)
   simp only [List.map_cons, SItem.den]
   rw [this, rangeS_eq, ← List.range_eq_range']
   rfl
  | true => exact draw_ok hT hs hρ hO R hr ht fuel cs
theorem stepS_ok (hT : T.Ok P) (hs : SubOk P b0 T.orac sub) (hρ : ρ.Ok) (hO : OracOk P b0 T.orac ρ) (R : CfgR ρ b0 C w f fs) (fuel : Nat) (cs : List Frame) : ResOk P T.orac.F b0 ρ C w f fs cs (stepS T sub fuel C) := by
 unfold stepS
 split
 ·rename_i v r hr; exact panStep_ok hT R hr cs
 ·rename_i hr; exact retStep_ok hT R hr cs
 ·rename_i hr
  split
  ·rename_i ht
   exact leave_ok R hr cs none (by intro c hc; cases hc) (.inl ⟨ht, rfl⟩)
  ·rename_i i k ht
   have hk : ∀ j ∈ k, j.okI C.next := fun j hj => R.top.items j (by rw [ht]; exact List.mem_cons_of_mem _ hj)
   unfold itemStep
   split
   ·exact code_ok hT hs hρ hO R hr ht fuel cs
   ·exact todo_ok R hr ht cs (fun cs => st_inBlock) hk
   ·exact todo_ok R hr ht cs (fun cs => st_inScope) hk
   ·rename_i b
    have hb : codeOk b = true := R.top.items (.inLoop b) (by rw [ht]; exact List.mem_cons_self ..)
    refine todo_ok R hr ht cs (fun cs => st_inLoop) ?_
    intro j hj
    rcases List.mem_cons.1 hj with rfl | hj
    ·exact hb
    ·rcases List.mem_cons.1 hj with rfl | hj
     ·exact hb
     ·exact hk j hj
   ·exact todo_ok R hr ht cs (fun cs => st_region_end) hk
   ·exact stepRegion_ok hT hρ hO R hr ht cs
   ·trivial
   ·exact endRange_ok R hr ht cs
   ·exact begin_ok R hr ht cs
def PcStep (F : Fns) (C : Cfg) : Res → Prop
 | .next C' => C'.pc = C.pc
 | .many l => PcOk F Cfg.pc C.pc l
 | _ => True
theorem region_pc (hs : SubPc T.orac.F sub) (hP : PostsOk T.orac) {fuel : Nat} {pc : List BE} {ops : List Oper} {sl : Slots} {h : SHeap} {nx : Nat} {ls : List RLeaf} (hr : region T sub fuel pc ops sl h nx = .leaves ls) : PcOk T.orac.F RLeaf.pc pc ls := by
 unfold region at hr
 rw [fL_eq] at hr
 split at hr
 ·rename_i ls' hls
  split at hr
  ·cases hr; exact (regGo_ok hs hP _ _ _ _ _ _ _ _ _ _ hls).1
  ·cases hr
 ·rename_i hh; exact absurd hr (hh _)
theorem regionPre_pc (hs : SubPc T.orac.F sub) (hP : PostsOk T.orac) {fuel p : Nat} {pc : List BE} {ops : List Oper} {sl : Slots} {h : SHeap} {nx : Nat} {ls : List RLeaf} (hr : regionPre T sub fuel pc ops sl h nx p = .leaves ls) : PcOk T.orac.F RLeaf.pc pc ls := by
 unfold regionPre at hr
 split at hr
 ·rw [fL_eq] at hr
  split at hr
  ·rename_i ls' hls
   split at hr
   ·split at hr
    ·cases hr; exact (regGo_ok hs hP _ _ _ _ _ _ _ _ _ _ hls).1
    ·cases hr
   ·cases hr
  ·rename_i hh; exact absurd hr (hh _)
 ·cases hr
theorem giveBack_pc (h : SHeap) (v : SV) : PcStep T.orac.F C (giveBack C h v) := by
 unfold giveBack doneS; (repeat' split) <;> first | trivial | rfl
theorem leaveS_pc (j : Option Code) : PcStep T.orac.F C (leaveS C j) := by
 unfold leaveS; (repeat' split) <;> first | trivial | rfl | exact giveBack_pc _ _
theorem takeD_pc (n : Nat) (ds : List Nat) : PcStep T.orac.F C (takeD C n ds) := by
 unfold takeD; (repeat' split) <;> first | trivial | rfl
theorem callDef_pc (g : FuncId) (a : List SV) (ds : List (Nat × (List SV × List SV))) : PcStep T.orac.F C (callDef T C g a ds) := by
 unfold callDef; (repeat' split) <;> first | trivial | rfl
theorem backD_pc : PcStep T.orac.F C (backD C) := by
 unfold backD; (repeat' split) <;> first | trivial | rfl
theorem retStep_pc : PcStep T.orac.F C (retStep T C) := by
 unfold retStep; (repeat' split) <;> first | exact takeD_pc _ _ | exact callDef_pc _ _ _ | exact backD_pc | exact giveBack_pc _ _ | trivial | rfl
theorem panStep_pc (v : SV) (r : Bool) : PcStep T.orac.F C (panStep T C v r) := by
 unfold panStep; (repeat' split) <;> first | exact takeD_pc _ _ | exact callDef_pc _ _ _ | trivial | rfl
theorem stepRegion_pc (hP : PostsOk T.orac) (ops : Array Oper) (i : Nat) (rest : List Nat) (k : List SItem) : PcStep T.orac.F C (stepRegion T C ops i rest k) := by
  have h0 : ∀ o, PcStep T.orac.F C (runR0 T C ops rest k o) := by
    intro o
    unfold runR0 enterR roundR valTo
    (repeat' split) <;> first
      | trivial
      | rfl
      | (rename_i u hu _ _
         exact PcOk.more _ rfl (fun ρ g hp => findX_post g hP hp hu))
      | (rename_i u hu _ _ _
         exact PcOk.more _ rfl (fun ρ g hp => findX_post g hP hp hu))
  have h1 : ∀ o, PcStep T.orac.F C (runR T C ops rest k o) := by
    intro o
    unfold runR
    split
    · unfold panR; (repeat' split) <;> first | trivial | rfl
    · unfold defR; (repeat' split) <;> first | trivial | rfl
    · split
      · unfold recR valTo; (repeat' split) <;> first | trivial | rfl
      · exact h0 _
    · exact h0 _
  unfold stepRegion wantR valTo
  (repeat' split) <;> first
    | exact h1 _
    | trivial
    | rfl
theorem drawStep_pc (hs : SubPc T.orac.F sub) (hP : PostsOk T.orac) (fuel : Nat) (ops : Array Oper) (k : List SItem) : PcStep T.orac.F C (drawStep T sub fuel C ops k) := by
 unfold drawStep
 split
 ·rename_i ls hls
  have hpc := region_pc hs hP hls
  unfold drawUp
  split
  ·exact many_pc hpc _ (fun _ => rfl)
  ·split
   ·rw [fL_eq]; exact many_pc hpc _ (fun r => goP_pc ..)
   ·trivial
 ·rename_i n _
  rw [fnat_eq]
  generalize cutAt T sub fuel C.pc ops.toList C.top.tmps C.heap C.next ops.toList.length 0 = p
  unfold drawPre
  split
  ·rename_i ls hls
   exact many_pc (regionPre_pc hs hP hls) _ (fun _ => rfl)
  ·trivial
theorem codeStep_pc (hs : SubPc T.orac.F sub) (hP : PostsOk T.orac) (fuel : Nat) (c : Code) (k : List SItem) : PcStep T.orac.F C (codeStep T sub fuel C c k) := by
 unfold codeStep
 split
 all_goals first
  | exact (rfl : _ = _)
  | exact drawStep_pc hs hP fuel _ _
  | exact leaveS_pc _
  | (unfold condStep; (repeat' split) <;> first | trivial | rfl)
  | (unfold exitStep; (repeat' split) <;> first | exact leaveS_pc _ | trivial | rfl)
  | (unfold gotoStep; (repeat' split) <;> first | exact leaveS_pc _ | trivial | rfl)
  | (unfold stepRange enterS; (repeat' split) <;> first | trivial | rfl)
  | trivial
theorem stepS_pc (hs : SubPc T.orac.F sub) (hP : PostsOk T.orac) (fuel : Nat) : PcStep T.orac.F C (stepS T sub fuel C) := by
 unfold stepS
 split
 ·exact panStep_pc _ _
 ·exact retStep_pc
 ·split
  ·exact leaveS_pc _
  ·unfold itemStep
   split
   ·exact codeStep_pc hs hP fuel _ _
   all_goals first
    | rfl
    | exact stepRegion_pc hP _ _ _ _
    | (unfold endRangeStep; (repeat' split) <;> first | trivial | rfl)
    | (unfold beginStep; (repeat' split) <;> first | trivial | rfl)
    | trivial
theorem runS_ok (hT : T.Ok P) : ∀ n, SubOk P b0 T.orac (runS T n) := by
  intro n
  induction n with
  | zero => intro C ls h; simp [runS] at h
  | succ n ih =>
    intro C ls h
    have hsp : SubPc T.orac.F (runS T n) := fun C ls h => (ih C ls h).1
    have hpc := stepS_pc (T := T) (C := C) hsp hT.posts n
    have compose : ∀ (C' : Cfg) (ls' : List Leaf), RunOk P b0 T.orac C' ls' → ∀ (ρ : Rho) (w : World) (f : Frame) (fs cs : List Frame), ρ.Ok → OracOk P b0 T.orac ρ → CfgR ρ b0 C w f fs → NextOk P b0 ρ C w f fs cs C' →
        ∃ lf ∈ ls', Holds ρ lf.pc ∧ ∃ ρ' w' f', Steps P (lone f (fs ++ cs) w) (lone f' cs w') ∧ f'.leaving P w' (endS ρ' lf.val) ∧ f'.fn = bot C.top C.rest ∧ Move ρ ρ' b0 C.heap lf.heap C.next lf.next w w' ∧ NamesV lf.next lf.val := by
      intro C' ls' hrun ρ w f fs cs hρ hO R ⟨ρ1, w1, f1, fs1, R1, hm, hst, hbot⟩
      obtain ⟨lf, hlf, hh, ρ', w', f', hst2, hlv, hfn, hm2, hn⟩ := hrun ρ1 w1 f1 fs1 cs (hm.agr.ok hρ) (hO.agr hm.agr) R1
      exact ⟨lf, hlf, (hm.agr.holds).1 hh, ρ', w', f', Steps.trans hst hst2, hlv, hfn.trans hbot, Move.trans hm hm2 R.names, hn⟩
    simp only [runS] at h
    split at h
    · rename_i C' hC'
      rw [hC'] at hpc
      obtain ⟨h1, h2⟩ := ih C' ls h
      refine ⟨by rw [← show C'.pc = C.pc from hpc]; exact h1, ?_⟩
      intro ρ w f fs cs hρ hO R
      have := stepS_ok (sub := runS T n) hT ih hρ hO R n cs
      rw [hC'] at this
      exact compose C' ls h2 ρ w f fs cs hρ hO R this.2
    · rename_i l hl
      rw [hl] at hpc
      obtain ⟨hk, rfl⟩ := overCfgs_ok h
      refine ⟨PcOk.bind hpc (fun x hx => (ih x _ (hk x hx)).1), ?_⟩
      intro ρ w f fs cs hρ hO R
      have := stepS_ok (sub := runS T n) hT ih hρ hO R n cs
      rw [hl] at this
      obtain ⟨_, C', hC', hnext⟩ := this
      obtain ⟨lf, hlf, rest⟩ := compose C' _ (ih C' _ (hk C' hC')).2 ρ w f fs cs hρ hO R hnext
      exact ⟨lf, List.mem_flatMap.2 ⟨C', hC', hlf⟩, rest⟩
    · rename_i c hc
      rw [fBE_eq] at h
      obtain ⟨l1, l2, h1, h2, rfl⟩ := Out.app_leaves h
      obtain ⟨p1, r1⟩ := ih _ _ h1
      obtain ⟨p2, r2⟩ := ih _ _ h2
      refine ⟨p1.split p2, ?_⟩
      intro ρ w f fs cs hρ hO R
      cases hd : c.den ρ with
      | true =>
        obtain ⟨lf, hlf, rest⟩ := r1 ρ w f fs cs hρ hO ⟨R.top, R.rest, R.heap, R.names, R.pc.cons hd⟩
        exact ⟨lf, List.mem_append.2 (.inl hlf), rest⟩
      | false =>
        obtain ⟨lf, hlf, rest⟩ := r2 ρ w f fs cs hρ hO ⟨R.top, R.rest, R.heap, R.names, R.pc.cons (by simp [den_not, hd])⟩
        exact ⟨lf, List.mem_append.2 (.inr hlf), rest⟩
    · rename_i v hv
      cases h
      refine ⟨.single _ rfl, ?_⟩
      intro ρ w f fs cs hρ hO R
      have := stepS_ok (sub := runS T n) hT ih hρ hO R n cs
      rw [hv] at this
      obtain ⟨h1, h2, h3, h4⟩ := this
      have hfs : fs = [] := by
        have hr := R.rest
        rw [h1] at hr
        cases hr; rfl
      subst hfs
      exact ⟨_, List.mem_singleton.2 rfl, R.pc, ρ, w, f, .refl _ _, h2, by rw [h3, h1]; rfl, Move.rfl' R.heap R.names, h4⟩
    · cases h
theorem calls_of (hT : T.Ok P) {n : Nat} {g : FuncId} {args : List SV} {pc : List BE} {ls : List Leaf} (h : callS T n g args pc = .leaves ls) (hρ : ρ.Ok) (hO : OracOk P b0 T.orac ρ) (hp : Holds ρ pc) (hn : SV.namesL args = []) (hw : Grew b0 w) :
  Calls P g (SV.denL ρ args).toArray w fun e w' => ∃ lf ∈ ls, Holds ρ lf.pc ∧ ∃ ρ', Same ρ ρ' ∧ e = endS ρ' lf.val ∧ w.grownBy w' none ∧ HeapR ρ' b0 lf.heap w' := by
 unfold callS at h
 split at h
 ·rename_i F hF
  split at h
  ·rename_i c hc
   have hnl : NamesL 0 args := by rw [NamesL.iff, hn]; simp
   have H0 : HeapR ρ b0 [] w := ⟨hw, fun n o hh => by simp [lk_nil] at hh, fun n o hh => by simp [lk_nil] at hh, fun n m o p hh => by simp [lk_nil] at hh⟩
   have R : CfgR ρ b0 { top := frameOf g F c args, rest := [], heap := [], next := 0, pc := pc } w (Frame.enter P g (SV.denL ρ args).toArray .normal) [] :=
    ⟨(enter_R hT hF hc hnl).1, .nil, H0, fun n o hh => by simp [lk_nil] at hh, hp⟩
   intro cs
   obtain ⟨lf, hlf, hh, ρ', w', f', hst, hlv, hfn, hm, hnv⟩ := (runS_ok (b0 := b0) hT n _ _ h).2 ρ w _ [] cs hρ hO R
   refine ⟨endS ρ' lf.val, w', f', ⟨lf, hlf, hh, ρ', hm.agr.same, rfl, ?_, hm.heap⟩, comes_endS hst, hfn, hlv⟩
   refine ⟨hm.heap.g0.os.trans hw.os.symm, hm.heap.g0.tape.trans hw.tape.symm, hm.heap.g0.output.trans hw.output.symm, hm.size, fun k hk _ => hm.same k hk (fun n o hh => by simp [lk_nil] at hh)⟩
  ·cases h
 ·cases h
end
end Go.Proofs.Ythenenacmiiphaa.Sx
namespace Go.Proofs.Ythenenacmiiphaa.Sx
open Go
def svIs : SV → Value → Bool
 | .int k (.lit n), .int j m => if keq k j then ieqb n m else false
 | .bool (.lit b), .bool c => b == c
 | .const (.pointer none), .pointer none => true
 | .const (.slice none 0 0), .slice none 0 0 => true
 | .const (.map none), .map none => true
 | .const .nilFunc, .nilFunc => true
 | .const .nilIface, .nilIface => true
 | .str [], .string t => Nat.beq t.size 0
 | .const (.string s), .string t => if Nat.beq s.size 0 then Nat.beq t.size 0 else false
 | _, _ => false
def svsIs : List SV → List Value → Bool
 | [], [] => true
 | a :: l, b :: m => if svIs a b then svsIs l m else false
 | _, _ => false
def stChk : ST → TypeDesc → Bool
 | .int k, .int j => keq k j
 | .bool, .bool => true
 | .slice e, .slice d => Nat.beq e d
 | .arr n e, .array m d => if Nat.beq n m then Nat.beq e d else false
 | .str, .string => true
 | .ptr, .pointer _ => true
 | .func, .func _ _ _ => true
 | .iface, .interface _ => true
 | .map k e, .map a b => if Nat.beq k a then Nat.beq e b else false
 | .struct fs, .struct F => fs == F.toList.map fun f => (f.offset, f.type)
 | .other, _ => true
 | _, _ => false
def aggIs (b : Bool) : Value → Bool
 | .agg _ => b
 | _ => !b
theorem aggIs_ok {b : Bool} {z : Value} (h : aggIs b z = true) : (b = true → ∃ cs, z = .agg cs) ∧ (b = false → ∀ cs, z ≠ .agg cs) := by
 unfold aggIs at h
 split at h
 ·subst h; exact ⟨fun _ => ⟨_, rfl⟩, fun e => (by cases e)⟩
 ·rename_i hz
  have : b = false := by simpa using h
  subst this
  exact ⟨fun e => (by cases e), fun _ cs e => hz cs e⟩
def tyChk (P : Program) (t : TypeId) (ti : TI) : Bool :=
 match P.info? t, P.underlying t with
 | some i, some d => (match i.zero with
  | some z => if Nat.beq i.size ti.size then (if svsIs ti.zero z.cells.toList then (if stChk ti.und d then (if ti.agg == d.isRow then (if Nat.beq i.bytes ti.bytes then (if aggIs ti.agg z then Nat.beq ti.zero.length ti.size else false) else false) else false) else false) else false) else false
  | none => false)
 | _, _ => false
def BT.all {α : Type} (p : Nat → α → Bool) : BT α → Bool
 | .nil => true
 | .node l n v r => if p n v then (if l.all p then r.all p else false) else false
theorem BT.all_get {α : Type} {p : Nat → α → Bool} : ∀ (b : BT α), b.all p = true → ∀ k v, b.get k = some v → p k v = true
 | .nil, _, k, v, h => by simp [BT.get] at h
 | .node l n u r, ha, k, v, h => by
  simp only [BT.all] at ha
  split at ha
  ·rename_i h1
   split at ha
   ·rename_i h2
    simp only [BT.get] at h
    split at h
    ·rename_i e
     have : n = k := by simpa using e
     subst this
     cases h
     exact h1
    ·split at h
     ·exact BT.all_get l h2 k v h
     ·exact BT.all_get r ha k v h
   ·cases ha
  ·cases ha
def BT.AllP {α : Type} (p : Nat → α → Prop) : BT α → Prop
 | .nil => True
 | .node l n v r => BT.AllP p l ∧ p n v ∧ BT.AllP p r
theorem BT.allP_get {α : Type} {p : Nat → α → Prop} : ∀ (b : BT α), BT.AllP p b → ∀ k v, b.get k = some v → p k v
 | .nil, _, k, v, h => by simp [BT.get] at h
 | .node l n u r, ⟨h1, h2, h3⟩, k, v, h => by
  simp only [BT.get] at h
  split at h
  ·rename_i e
   have : n = k := by simpa using e
   subst this
   cases h
   exact h2
  ·split at h
   ·exact BT.allP_get l h1 k v h
   ·exact BT.allP_get r h3 k v h
theorem svIs_ok (a : SV) (b : Value) (h : svIs a b = true) : a.names = [] ∧ ∀ ρ, a.den ρ = b := by
 unfold svIs at h
 split at h <;> first
  | (cases h; done)
  | skip
 ·split at h
  ·rename_i hk
   rw [(keq_iff _ _).1 hk, (ieqb_iff _ _).1 h]
   exact ⟨rfl, fun ρ => rfl⟩
  ·cases h
 ·rename_i b c
  have : b = c := by simpa using h
  subst this
  exact ⟨rfl, fun ρ => rfl⟩
 ·exact ⟨rfl, fun ρ => rfl⟩
 ·exact ⟨rfl, fun ρ => rfl⟩
 ·exact ⟨rfl, fun ρ => rfl⟩
 ·exact ⟨rfl, fun ρ => rfl⟩
 ·exact ⟨rfl, fun ρ => rfl⟩
 ·rename_i t
  have e2 : t.size = 0 := by simpa using h
  refine ⟨rfl, fun ρ => ?_⟩
  have : t = bytesOf [] := by
   obtain ⟨⟨b⟩⟩ := t
   simp [ByteArray.size] at e2
   rw [e2]; rfl
  rw [this]; rfl
 ·rename_i s t
  split at h
  ·rename_i h1
   have e1 : s.size = 0 := by simpa using h1
   have e2 : t.size = 0 := by simpa using h
   have : s = t := by
    obtain ⟨⟨a⟩⟩ := s
    obtain ⟨⟨b⟩⟩ := t
    simp [ByteArray.size] at e1 e2
    rw [e1, e2]
   subst this
   exact ⟨rfl, fun ρ => rfl⟩
  ·cases h
theorem svsIs_ok : ∀ (l : List SV) (m : List Value), svsIs l m = true → SV.namesL l = [] ∧ ∀ ρ, SV.denL ρ l = m
 | [], m, h => by cases m <;> simp [svsIs] at h; exact ⟨rfl, fun ρ => rfl⟩
 | a :: l, m, h => by
  cases m with
  | nil => simp [svsIs] at h
  | cons b m =>
   simp only [svsIs] at h
   split at h
   ·rename_i h1
    obtain ⟨n1, d1⟩ := svIs_ok a b h1
    obtain ⟨n2, d2⟩ := svsIs_ok l m h
    exact ⟨by simp [SV.namesL, n1, n2], fun ρ => by simp [SV.denL, d1 ρ, d2 ρ]⟩
   ·cases h
theorem stChk_ok (s : ST) (d : TypeDesc) (h : stChk s d = true) : StOk s d := by
 unfold stChk at h
 split at h <;> first
  | (cases h; done)
  | skip
 ·rw [(keq_iff _ _).1 h]; rfl
 ·rfl
 ·have := Nat.eq_of_beq_eq_true h
  subst this; rfl
 ·split at h
  ·rename_i h1
   have e1 := Nat.eq_of_beq_eq_true h1
   have e2 := Nat.eq_of_beq_eq_true h
   subst e1; subst e2; rfl
  ·cases h
 ·rfl
 ·exact ⟨_, rfl⟩
 ·exact ⟨_, _, _, rfl⟩
 ·exact ⟨_, rfl⟩
 ·split at h
  ·rename_i h1
   have e1 := Nat.eq_of_beq_eq_true h1
   have e2 := Nat.eq_of_beq_eq_true h
   subst e1; subst e2; rfl
  ·cases h
 ·exact ⟨_, rfl, (by simpa using h : _ = _).symm⟩
 ·trivial
theorem tyChk_ok {P : Program} {t : TypeId} {ti : TI} (h : tyChk P t ti = true) : TyOk P t ti := by
 unfold tyChk at h
 split at h
 ·rename_i i d hi hd
  split at h
  ·rename_i z hz
   split at h
   ·rename_i h1
    split at h
    ·rename_i h2
     split at h
     ·rename_i h3
      split at h
      ·rename_i h4
       split at h
       ·rename_i h5
        split at h
        ·rename_i h6
         obtain ⟨n, e⟩ := svsIs_ok _ _ h2
         exact ⟨⟨i, z, hi, Nat.eq_of_beq_eq_true h1, hz, fun ρ => by rw [e ρ], Nat.eq_of_beq_eq_true h5⟩, n, Nat.eq_of_beq_eq_true h, (fun i' z' hi' hz' => by
          rw [hi] at hi'; cases hi'
          rw [hz] at hz'; cases hz'
          exact aggIs_ok h6), ⟨d, hd, stChk_ok _ _ h3, by simpa using h4⟩⟩
        ·cases h
       ·cases h
      ·cases h
     ·cases h
    ·cases h
   ·cases h
  ·cases h
 ·cases h
def nameOk (fn : Func) : Bool := !(fn.name == "runtime.NumGoroutine")
noncomputable def fnChk (fn : Func) : Bool :=
 match fn.body with
 | some c => codeOk c
 | none => true
theorem tab_ok {P : Program} {ty : BT TI} {fn : BT Func} {eqs : List (Nat × List CK)} {orac : Orc} (h1 : ty.all (tyChk P) = true) (h2 : BT.AllP (fun f F => P.funcs[f]? = some F) fn) (h3 : fn.all (fun _ F => nameOk F) = true) (h4 : fn.all (fun _ F => fnChk F) = true)
  (h5 : ∀ t ks, lk eqs t = some ks → EqOk P t ks) (h6 : P.follows .mixedOrders = true) (h7 : PostsOk orac) : Tab.Ok P { ty := ty, fn := fn, eqs := eqs, orac := orac } := by
 refine ⟨fun t ti h => tyChk_ok (BT.all_get ty h1 t ti h), fun f F h => ⟨BT.allP_get fn h2 f F h, by simpa [nameOk] using BT.all_get fn h3 f F h⟩, fun f F c h hc => ?_, h5, h6, h7⟩
 have := BT.all_get fn h4 f F h
 simpa [fnChk, hc] using this
def leafTrue (l : Leaf) : Bool :=
 match l.val with
 | .bool (.lit true) => true
 | _ => false
def allB {α : Type} (p : α → Bool) : List α → Bool
 | [] => true
 | x :: l => if p x then allB p l else false
theorem allB_ok {α : Type} {p : α → Bool} : ∀ {l : List α}, allB p l = true → ∀ x ∈ l, p x = true
 | [], _ => by simp
 | x :: l, h => by
  simp only [allB] at h
  split at h
  ·rename_i h1
   intro y hy
   rcases List.mem_cons.1 hy with rfl | hy
   ·exact h1
   ·exact allB_ok h y hy
  ·cases h
def outTrue : Out → Bool
 | .leaves l => allB leafTrue l
 | .fail _ _ => false
def leafAt (c : BE) (yes no : SV) (pc : List BE) (v : SV) : Bool :=
 match dec pc c with
 | some true => SV.beq v yes
 | some false => SV.beq v no
 | none => false
def leafIf (c : BE) (yes no : SV) (l : Leaf) : Bool :=
 if calm [l] then (if leafAt c yes no l.pc l.val then true
 else match l.val with
  | .bool b => if leafAt c yes no (b :: l.pc) (.bool (.lit true)) then leafAt c yes no (.not b :: l.pc) (.bool (.lit false)) else false
  | _ => false) else false
def outIf (c : BE) (yes no : SV) : Out → Bool
 | .leaves l => allB (leafIf c yes no) l
 | .fail _ _ => false
section
variable {P : Program} {T : Tab} {b0 : World} {ρ : Rho} {w : World}
theorem leafAt_ok {σ : Rho} (hσ : σ.Ok) {c : BE} {yes no v : SV} {pc : List BE} (hh : Holds σ pc) (h : leafAt c yes no pc v = true) : v.den σ = (if c.den σ then yes else no).den σ := by
 unfold leafAt at h
 split at h
 ·rename_i hd
  rw [dec_den hσ hh _ _ hd, SV.beq_eq _ _ h]; rfl
 ·rename_i hd
  rw [dec_den hσ hh _ _ hd, SV.beq_eq _ _ h]; rfl
 ·cases h
theorem leafIf_ok {σ : Rho} (hσ : σ.Ok) {c : BE} {yes no : SV} {l : Leaf} (hh : Holds σ l.pc) (h : leafIf c yes no l = true) : l.val.den σ = (if c.den σ then yes else no).den σ := by
 unfold leafIf at h
 obtain ⟨_, h⟩ := ifb h
 split at h
 ·rename_i h1
  exact leafAt_ok hσ hh h1
 ·split at h
  ·rename_i b hv
   split at h
   ·rename_i h1
    cases hb : b.den σ with
    | true =>
     rw [← leafAt_ok hσ (v := .bool (.lit true)) (pc := b :: l.pc) (by intro p hp; rcases List.mem_cons.1 hp with rfl | hp; exact hb; exact hh p hp) h1, hv]
     simp [SV.den, BE.den, hb]
    | false =>
     rw [← leafAt_ok hσ (v := .bool (.lit false)) (pc := .not b :: l.pc) (by intro p hp; rcases List.mem_cons.1 hp with rfl | hp; simp [BE.den, hb]; exact hh p hp) h, hv]
     simp [SV.den, BE.den, hb]
   ·cases h
  ·cases h
theorem true_of (hT : T.Ok P) {n : Nat} {g : FuncId} {args : List SV} {pc : List BE} (h : outTrue (callS T n g args pc) = true) (hρ : ρ.Ok) (hO : OracOk P b0 T.orac ρ) (hp : Holds ρ pc) (hn : SV.namesL args = []) (hw : Grew b0 w) :
  Calls P g (SV.denL ρ args).toArray w fun e w' => e = .returned (.bool true) ∧ w.grownBy w' none := by
 cases hc : callS T n g args pc with
 | fail a b => rw [hc] at h; cases h
 | leaves ls =>
  rw [hc] at h
  refine (calls_of hT hc hρ hO hp hn hw).mono ?_
  rintro e w' ⟨lf, hlf, hh, ρ', hs, rfl, hg, _⟩
  have := allB_ok h lf hlf
  unfold leafTrue at this
  split at this
  ·rename_i hv
   exact ⟨by rw [endS_ret (by rw [hv]; rfl), hv]; rfl, hg⟩
  ·cases this
theorem if_of (hT : T.Ok P) {n : Nat} {g : FuncId} {args : List SV} {pc : List BE} {c : BE} {yes no : SV} (h : outIf c yes no (callS T n g args pc) = true) (hρ : ρ.Ok) (hO : OracOk P b0 T.orac ρ) (hp : Holds ρ pc) (hn : SV.namesL args = []) (hy : yes.names = []) (hno : no.names = []) (hw : Grew b0 w) :
  Calls P g (SV.denL ρ args).toArray w fun e w' => e = .returned ((if c.den ρ then yes else no).den ρ) ∧ w.grownBy w' none := by
 cases hc : callS T n g args pc with
 | fail a b => rw [hc] at h; cases h
 | leaves ls =>
  rw [hc] at h
  refine (calls_of hT hc hρ hO hp hn hw).mono ?_
  rintro e w' ⟨lf, hlf, hh, ρ', hs, rfl, hg, _⟩
  have hA := allB_ok h lf hlf
  have hh' : Holds ρ' lf.pc := hs.holds.2 hh
  have key : lf.val.den ρ' = ((if c.den ρ' then yes else no) : SV).den ρ' := leafIf_ok (hs.ok hρ) hh' hA
  have ey := SV.den_eq hs yes (by rw [hy]; simp)
  have en := SV.den_eq hs no (by rw [hno]; simp)
  refine ⟨?_, hg⟩
  have hpn : panV lf.val = none := by
   have hA2 := hA
   unfold leafIf at hA2
   exact calm_ok (ifb hA2).1 lf (List.mem_singleton.2 rfl)
  rw [endS_ret hpn, key, BE.den_same hs]
  split
  ·rw [ey]
  ·rw [en]
end
end Go.Proofs.Ythenenacmiiphaa.Sx
namespace Go.Proofs.Ythenenacmiiphaa.Sx
open Go
def VK : CK → Value → Prop
 | .int k, v => ∃ n, v = .int k n
 | .bool, v => ∃ b, v = .bool b
 | _, _ => False
inductive Fit : List CK → List Value → Prop
 | nil : Fit [] []
 | cons {k v ks vs} : VK k v → Fit ks vs → Fit (k :: ks) (v :: vs)
def isOneK (c : CK) : List CK → Bool
 | [d] => (match c, d with
  | .int k, .int j => keq k j
  | .bool, .bool => true
  | _, _ => false)
 | _ => false
def fldsK (P : Program) (chk : TypeId → List CK → Bool) : List Field → Nat → List CK → Bool
 | [], _, ks => (match ks with
  | [] => true
  | _ => false)
 | f :: fs, off, ks =>
  if Nat.beq f.offset off then (if f.name == "_" then false else (if Nat.ble (P.cellsOf f.type) ks.length then (if chk f.type (ks.take (P.cellsOf f.type)) then fldsK P chk fs (off + P.cellsOf f.type) (ks.drop (P.cellsOf f.type)) else false) else false)) else false
def eqChk (P : Program) : Nat → TypeId → List CK → Bool
 | 0, _, _ => false
 | d + 1, t, ks =>
  match P.underlying t, P.info? t with
  | some (.int k), some _ => isOneK (.int k) ks
  | some .bool, some _ => isOneK .bool ks
  | some (.struct fs), some i => if P.stoodInHeld t then false else (if Nat.beq ks.length i.size then fldsK P (eqChk P d) fs.toList 0 ks else false)
  | _, _ => false
def wv (P : Program) (t : TypeId) (cs : List Value) : Value :=
 match P.underlying t with
 | some (.struct _) => .agg cs.toArray
 | _ => cs.headD undef
def vbeq : Value → Value → Bool
 | .int _ a, .int _ b => a == b
 | .bool a, .bool b => a == b
 | _, _ => false
def veq : List Value → List Value → Bool
 | [], [] => true
 | a :: l, b :: m => vbeq a b && veq l m
 | _, _ => false
theorem Fit.length {ks : List CK} {vs : List Value} (h : Fit ks vs) : vs.length = ks.length := by
  induction h with
  | nil => rfl
  | cons _ _ ih => simp [ih]
theorem Fit.take {ks : List CK} {vs : List Value} (h : Fit ks vs) : ∀ n, Fit (ks.take n) (vs.take n) := by
  induction h with
  | nil => intro n; simp; exact .nil
  | cons h _ ih => intro n; cases n with
    | zero => exact .nil
    | succ n => exact .cons h (ih n)
theorem Fit.drop {ks : List CK} {vs : List Value} (h : Fit ks vs) : ∀ n, Fit (ks.drop n) (vs.drop n) := by
  induction h with
  | nil => intro n; simp; exact .nil
  | cons h h2 ih => intro n; cases n with
    | zero => exact .cons h h2
    | succ n => exact ih n
theorem veq_split : ∀ (n : Nat) (xs ys : List Value), xs.length = ys.length → veq xs ys = (veq (xs.take n) (ys.take n) && veq (xs.drop n) (ys.drop n))
 | 0, xs, ys, h => by simp [veq]
 | n + 1, [], [], h => by simp [veq]
 | n + 1, a :: xs, b :: ys, h => by
  simp only [veq, List.take_succ_cons, List.drop_succ_cons]
  rw [veq_split n xs ys (by simpa using h), Bool.and_assoc]
section
variable {P : Program}
theorem isOneK_ok {c : CK} {ks : List CK} (h : isOneK c ks = true) : ks = [c] := by
 unfold isOneK at h
 split at h
 ·split at h
  ·rw [(keq_iff _ _).1 h]
  ·rfl
  ·cases h
 ·cases h
theorem part_wv {t : TypeId} {d : Nat} {ks : List CK} (hc : eqChk P d t ks = true) {cs : List Value} {off : Nat} (hf : Fit ks ((cs.drop off).take (P.cellsOf t))) (w : World) : (part t cs.toArray off).run P w = .ok (wv P t ((cs.drop off).take (P.cellsOf t))) w := by
 cases d with
 | zero => simp [eqChk] at hc
 | succ d =>
  simp only [eqChk] at hc
  split at hc
  ·rename_i k i hu hi
   have hk := isOneK_ok hc
   subst hk
   have hl := hf.length
   cases hx : (cs.drop off).take (P.cellsOf t) with
   | nil => rw [hx] at hl; simp at hl
   | cons v l =>
    have h0 : ((cs.drop off).take (P.cellsOf t))[0]? = some v := by rw [hx]; rfl
    rw [List.getElem?_take] at h0
    split at h0
    ·rw [List.getElem?_drop] at h0
     simp at h0
     simp [part, run_isAgg hu, wv, hu, h0]
    ·cases h0
  ·rename_i i hu hi
   have hk := isOneK_ok hc
   subst hk
   have hl := hf.length
   cases hx : (cs.drop off).take (P.cellsOf t) with
   | nil => rw [hx] at hl; simp at hl
   | cons v l =>
    have h0 : ((cs.drop off).take (P.cellsOf t))[0]? = some v := by rw [hx]; rfl
    rw [List.getElem?_take] at h0
    split at h0
    ·rw [List.getElem?_drop] at h0
     simp at h0
     simp [part, run_isAgg hu, wv, hu, h0]
    ·cases h0
  ·rename_i fs i hu hi
   simp [part, run_isAgg hu, wv, hu, run_sizeOf' hi, Program.cellsOf, hi]
  ·cases hc
theorem eqChk_ok (D : Nat) : ∀ (d : Nat) (t : TypeId) (ks : List CK), eqChk P d t ks = true → ∀ (xs ys : List Value) (w : World), Fit ks xs → Fit ks ys → (Op.equalIn (D + d) t (wv P t xs) (wv P t ys)).run P w = .ok (veq xs ys) w := by
  intro d
  induction d with
  | zero => intro t ks h; simp [eqChk] at h
  | succ d ih =>
    intro t ks h xs ys w hx hy
    have hch := h
    simp only [eqChk] at h
    split at h
    · rename_i k i hu hi
      have hk := isOneK_ok h
      subst hk
      cases hx with
      | cons hv hx =>
        cases hx
        cases hy with
        | cons hv2 hy =>
          cases hy
          obtain ⟨a, rfl⟩ := hv
          obtain ⟨b, rfl⟩ := hv2
          have := run_equalIn_int (P := P) w (D + d) t k k a b hu
          rw [show D + (d + 1) = (D + d) + 1 from rfl]
          simpa [wv, hu, veq, vbeq] using this
    · rename_i i hu hi
      have hk := isOneK_ok h
      subst hk
      cases hx with
      | cons hv hx =>
        cases hx
        cases hy with
        | cons hv2 hy =>
          cases hy
          obtain ⟨a, rfl⟩ := hv
          obtain ⟨b, rfl⟩ := hv2
          have := run_equalIn_bool' (P := P) w (D + d) t a b hu
          rw [show D + (d + 1) = (D + d) + 1 from rfl]
          simpa [wv, hu, veq, vbeq] using this
    · rename_i fs i hu hi
      split at h
      · cases h
      · rename_i hst
        split at h
        · rename_i hlen
          have hfo : P.fieldsOf t = fs := by simp [Program.fieldsOf, hu]
          have hst' : P.stoodInHeld t = false := by simpa using hst
          simp only [wv, hu]
          rw [show D + (d + 1) = (D + d) + 1 by omega, run_equalIn_agg w (D + d) t _ _ (by rw [hfo]; exact hu) hst', hfo]
          have key : ∀ (l : List Field) (off : Nat) (ks : List CK) (xs' ys' : List Value) (w : World), fldsK P (eqChk P d) l off ks = true → xs' = xs.drop off → ys' = ys.drop off → Fit ks xs' → Fit ks ys' →
              (Op.eqFields (D + d) xs.toArray ys.toArray l).run P w = .ok (veq xs' ys') w := by
            intro l
            induction l with
            | nil =>
              intro off ks xs' ys' w hf h1 h2 f1 f2
              simp only [fldsK] at hf
              split at hf
              · cases f1; cases f2; simp [Op.eqFields, veq]
              · cases hf
            | cons f l ihl =>
              intro off ks xs' ys' w hf h1 h2 f1 f2
              simp only [fldsK] at hf
              split at hf
              · rename_i ho
                have ho' : f.offset = off := by simpa using ho
                split at hf
                · cases hf
                · rename_i hnm
                  split at hf
                  · rename_i hle
                    split at hf
                    · rename_i hc
                      have g1 := f1.take (P.cellsOf f.type)
                      have g2 := f2.take (P.cellsOf f.type)
                      rw [h1] at g1
                      rw [h2] at g2
                      have p1 := part_wv hc g1 w
                      have p2 := part_wv hc g2 w
                      have e1 := ih f.type _ hc _ _ w g1 g2
                      have hrest := ihl (off + P.cellsOf f.type) _ (xs'.drop (P.cellsOf f.type)) (ys'.drop (P.cellsOf f.type)) w hf (by rw [h1, List.drop_drop]) (by rw [h2, List.drop_drop]) (f1.drop _) (f2.drop _)
                      have hn : f.name ≠ "_" := by simpa using hnm
                      simp only [Op.eqFields, hn, ne_eq, not_false_eq_true, if_true, Sem.run_bind, ho', p1, p2, Result.andThen_ok, e1]
                      have hl : xs'.length = ys'.length := f1.length.trans f2.length.symm
                      rw [veq_split (P.cellsOf f.type) xs' ys' hl, h1, h2]
                      rw [h1, h2] at hrest
                      cases hb : veq ((xs.drop off).take (P.cellsOf f.type)) ((ys.drop off).take (P.cellsOf f.type)) with
                      | false => simp
                      | true => simp only [Bool.not_true, Bool.false_eq_true, if_false, hrest, Bool.true_and]
                    · cases hf
                  · cases hf
              · cases hf
          exact key fs.toList 0 ks xs ys w h (by simp) (by simp) hx hy
        · cases h
    · cases h
theorem eqCells_ok (ρ : Rho) : ∀ (ks : List CK) (xs ys : List SV) (c : BE), eqCells ks xs ys = some c → Fit ks (SV.denL ρ xs) ∧ Fit ks (SV.denL ρ ys) ∧ c.den ρ = veq (SV.denL ρ xs) (SV.denL ρ ys) := by
  intro ks
  induction ks with
  | nil =>
    intro xs ys c h
    cases xs <;> cases ys <;> simp [eqCells] at h
    subst h
    exact ⟨.nil, .nil, rfl⟩
  | cons k ks ih =>
    intro xs ys c h
    unfold eqCells at h
    split at h
    · rename_i e; cases e
    · rename_i k' ks' j a l i b m e
      cases e
      split at h
      · rename_i h1
        split at h
        · rename_i h2
          split at h
          · rename_i r hr
            cases h
            obtain ⟨f1, f2, f3⟩ := ih _ _ _ hr
            have e1 := (keq_iff _ _).1 h1
            have e2 := (keq_iff _ _).1 h2
            subst e1
            subst e2
            refine ⟨.cons ⟨_, rfl⟩ f1, .cons ⟨_, rfl⟩ f2, ?_⟩
            rw [mkAnd_den, f3]
            simp only [SV.denL, SV.den, veq, vbeq]
            congr 1
            split
            · rename_i hb; rw [IE.beq_eq _ _ hb]; simp [BE.den]
            · rw [mkEq_den]; exact (beq_dec _ _).symm
          · cases h
        · cases h
      · cases h
    · rename_i ks' a l b m e
      cases e
      split at h
      · rename_i r hr
        cases h
        obtain ⟨f1, f2, f3⟩ := ih _ _ _ hr
        refine ⟨.cons ⟨_, rfl⟩ f1, .cons ⟨_, rfl⟩ f2, ?_⟩
        rw [mkAnd_den, f3]
        simp only [SV.denL, SV.den, veq, vbeq]
        congr 1
        split
        · rename_i hb; rw [BE.beq_eq _ _ hb]; simp [BE.den]
        · rw [mkIff_den]
      · cases h
    · cases h
def eqAll (P : Program) : List (Nat × List CK) → Bool
 | [] => true
 | (t, ks) :: l => if P.eqGuardType P.depth t then false else (match P.underlying t with
  | some (.struct _) => if eqChk P 6 t ks then eqAll P l else false
  | _ => false)
theorem eqAll_ok : ∀ (l : List (Nat × List CK)), eqAll P l = true → ∀ t ks, lk l t = some ks → EqOk P t ks
 | [], _, t, ks, h => by simp [lk_nil] at h
 | (u, us) :: l, ha, t, ks, h => by
  simp only [eqAll] at ha
  split at ha
  ·cases ha
  ·rename_i hg
   split at ha
   ·rename_i fs hu
    split at ha
    ·rename_i hc
     rw [lk_cons] at h
     split at h
     ·rename_i e
      subst e
      cases h
      intro ρ xs ys c w x y hcc
      obtain ⟨f1, f2, f3⟩ := eqCells_ok ρ _ _ _ _ hcc
      have hg' : P.eqGuardType P.depth u = false := by simpa using hg
      have he := eqChk_ok (P := P) 9994 6 u _ hc _ _ w f1 f2
      simp only [wv, hu] at he
      have he' : (Op.equalIn 10000 u (.agg (SV.denL ρ xs).toArray) (.agg (SV.denL ρ ys).toArray)).run P w = .ok (veq (SV.denL ρ xs) (SV.denL ρ ys)) w := he
      constructor
      ·rw [Sem.run_bind, run_eqGuard_agg w .eql u x y _ _ hg', Result.andThen_ok, run_eql_struct, he', f3]; rfl
      ·rw [Sem.run_bind, run_eqGuard_agg w .neq u x y _ _ hg', Result.andThen_ok, run_neq_struct, he', f3]; rfl
     ·exact eqAll_ok l ha t ks h
    ·cases ha
   ·cases ha
end
end Go.Proofs.Ythenenacmiiphaa.Sx
namespace Go.Proofs.Ythenenacmiiphaa.Sx
open Go
noncomputable section

inductive Piece where
 | done (l : Leaf)
 | cut (k : Nat) (C : Cfg)
inductive POut where
 | ok (l : List Piece)
 | fail (n : Nat) (at_ : Nat)
def POut.app : POut → POut → POut
 | .ok l, .ok m => .ok (l ++ m)
 | .fail n a, _ => .fail n a
 | _, .fail n a => .fail n a
def isHead (C : Cfg) : Bool :=
 match C.top.md.st with
 | .run => (match C.top.todo with
  | .code (.loop _) :: _ => true
  | .inLoop _ :: _ => true
  | _ => false)
 | _ => false
def loopsIn : List SItem → Nat
 | [] => 0
 | .inLoop _ :: k => Nat.succ (loopsIn k)
 | _ :: k => loopsIn k
def firstReg : Code → Nat
 | .seq a b => (match firstReg a with
  | 0 => firstReg b
  | n + 1 => n + 1)
 | .cond _ a b => (match firstReg a with
  | 0 => firstReg b
  | n + 1 => n + 1)
 | .block _ b => firstReg b
 | .loop b => firstReg b
 | .scope b => firstReg b
 | .region id _ _ => Nat.succ id
 | _ => 0
def headReg : List SItem → Nat
 | .code b :: _ => firstReg b
 | _ => 0
def frameAt (C : Cfg) : Nat → Option SFrame
 | 0 => some C.top
 | n + 1 => nth C.rest n
def formIs : SV → Nat → Bool
 | .sll _ _ _ _ _ _, 0 => true
 | .rom _ _ _ _, 1 => true
 | .sl _ _ _ _ _, 2 => true
 | .slice _ _ 1 _, 2 => true
 | v, 3 => isNilS v
 | _, _ => false
def nilAt (C : Cfg) (fr sl c : Nat) : Bool :=
 match frameAt C fr with
 | none => false
 | some f => if Nat.ble 60 c then (match get2 f.tmps sl with
  | some v => formIs v (Nat.sub c 60)
  | none => false) else if Nat.ble 40 c then (match get2 f.tmps sl with
  | some (.ptr n off) => (match ocs C.heap n with
   | some cs => (match nth cs (Nat.add off (Nat.div (Nat.sub c 40) 4)) with
    | some v => formIs v (Nat.mod (Nat.sub c 40) 4)
    | none => false)
   | none => false)
  | _ => false) else (match get2 f.tmps sl, c with
  | some v, 0 => isNilS v
  | some (.ptr n off), c + 1 => (match ocs C.heap n with
   | some cs => (match nth cs (Nat.add off c) with
    | some v => isNilS v
    | none => false)
   | none => false)
  | _, _ => false)
def nilOk (C : Cfg) : Nat → Bool
 | 0 => true
 | n + 1 => (match nilAt C (Nat.div (Nat.div n 128) 256) (Nat.mod (Nat.div n 128) 256) (Nat.mod (Nat.div n 2) 64) with
  | true => Nat.beq (Nat.mod n 2) 0
  | false => Nat.beq (Nat.mod n 2) 1)
def defsOk (C : Cfg) : Nat → Bool
 | 0 => true
 | n + 1 => (match frameAt C (Nat.div n 100) with
  | some f => Nat.beq f.defers.length (Nat.mod n 100)
  | none => false)
def testOk (C : Cfg) (n : Nat) : Bool := if nilOk C (Nat.mod n 10000000) then defsOk C (Nat.div n 10000000) else false
abbrev Sel := List (Nat × Nat × Nat × Nat)
def keyOk (C : Cfg) (x l : Nat) : Bool := if Nat.beq x l then true else if Nat.ble 1000000 l then Nat.beq l (Nat.add (Nat.mul 1000000 (headReg C.top.todo)) x) else false
def selOf : Sel → Nat → Cfg → Option Nat
 | [], _, _ => none
 | (f, l, d, k) :: r, x, C => if Nat.beq C.top.fn f then (if keyOk C x l then (if Nat.beq C.rest.length (Nat.mod d 1000) then (if testOk C (Nat.div d 1000) then some k else selOf r x C) else selOf r x C) else selOf r x C) else selOf r x C
def keyOf (C C' : Cfg) : Option Nat :=
 if isHead C then some (loopsIn C'.top.todo) else (match C'.top.md.st, C'.top.todo with
  | .run, .code (.region id _ _) :: _ => some (Nat.add 1000 id)
  | _, _ => none)
def overC (k : Cfg → POut) : List Cfg → POut
 | [] => .ok []
 | C :: l => POut.app (k C) (overC k l)
def runC (T : Tab) (sel : Sel) : Nat → Cfg → POut
 | 0, C => .fail 401 C.top.fn
 | n + 1, C => match stepS T (runS T n) n C with
  | .next C' => (match keyOf C C' with
   | some x => (match selOf sel x C' with
    | some k => .ok [.cut k C']
    | none => runC T sel n C')
   | none => runC T sel n C')
  | .many l => overC (runC T sel n) l
  | .split c => fBE c fun c => POut.app (runC T sel n { C with pc := c :: C.pc }) (runC T sel n { C with pc := .not c :: C.pc })
  | .done v => .ok [.done { pc := C.pc, val := v, heap := C.heap, next := C.next }]
  | .fail m => .fail m C.top.fn

def SItem.sb (S : Sub) : SItem → SItem
 | .inRange n => .inRange (nmA S.a n)
 | .endRange n => .endRange (nmA S.a n)
 | i => i
def subTodo (S : Sub) : List SItem → List SItem
 | [] => []
 | i :: k => i.sb S :: subTodo S k

def colTodo : List SItem → List SItem → Sub → Sub
 | .inRange n :: l, .inRange m :: k, S => colTodo l k (S.addA n m)
 | .endRange n :: l, .endRange m :: k, S => colTodo l k (S.addA n m)
 | _ :: l, _ :: k, S => colTodo l k S
 | _, _, S => S
def colD : List (Nat × (List SV × List SV)) → List (Nat × (List SV × List SV)) → Sub → Sub
 | (_, (a, c)) :: l, (_, (b, d)) :: m, S => colD l m (colL 1000 c d (colL 1000 a b S))
 | _, _, S => S
def colF (t a : SFrame) (S : Sub) : Sub := colTodo t.todo a.todo (colSl 1000 t.tmps a.tmps (colNs t.defers a.defers (match t.round, a.round with
 | some n, some m => colD t.md.dcs a.md.dcs (S.addA n m)
 | _, _ => colD t.md.dcs a.md.dcs S)))
def colFs : List SFrame → List SFrame → Sub → Sub
 | t :: l, a :: m, S => colFs l m (colF t a S)
 | _, _, S => S
def fitD (pc : List BE) (S : Sub) : List (Nat × (List SV × List SV)) → List (Nat × (List SV × List SV)) → Bool
 | [], [] => true
 | (f, (a, c)) :: l, (g, (b, d)) :: m => if Nat.beq f g then (if SV.beqL (SV.sbL pc S a) b then (if SV.beqL (SV.sbL pc S c) d then fitD pc S l m else false) else false) else false
 | _, _ => false
def fitM (pc : List BE) (S : Sub) (t a : SM) : Bool :=
 match t.st, a.st with
 | .run, .run => (match t.dfd, a.dfd with
  | false, false => fitD pc S t.dcs a.dcs
  | _, _ => false)
 | _, _ => false
def fitF (pc : List BE) (S : Sub) (t a : SFrame) : Bool :=
 if Nat.beq t.fn a.fn then (if eqSl (subSl pc S t.tmps) a.tmps then (if eqNs (subNs S t.defers) a.defers then (if fitM pc S t.md a.md then eqON (t.round.map (nmA S.a)) a.round else false) else false) else false) else false
def fitFs (pc : List BE) (S : Sub) : List SFrame → List SFrame → Bool
 | [], [] => true
 | t :: l, a :: m => if fitF pc S t a then fitFs pc S l m else false
 | _, _ => false
def isMark : BE → Bool
 | .and (.lit true) (.lit true) => true
 | _ => false
def okPc (pc : List BE) (S : Sub) : List BE → Bool
 | [] => true
 | p :: l => if isMark p then true else (match dec pc (p.sb pc S) with
  | some true => okPc pc S l
  | _ => false)
def leanOf : List BE → List BE
 | [] => []
 | p :: l => if isMark p then l else leanOf l
def keysI : List (IntKind × Nat × IE) → Bool
 | [] => true
 | (_, n, _) :: l => if Nat.ble 1000 n then keysI l else false
def keysN {α : Type} : List (Nat × α) → Bool
 | [] => true
 | (n, _) :: l => if Nat.ble 1000 n then keysN l else false
def keysOk (S : Sub) : Bool := if keysI S.i then (if keysN S.b then (if keysN S.l then (match S.r with
 | [] => keysN S.v
 | _ => false) else false) else false) else false
def codesF : List SFrame → List (List SItem)
 | [] => []
 | f :: l => f.todo :: codesF l
def codesH : SHeap → List (List SItem)
 | [] => []
 | (_, .loop _ _ _ _ _ as body _) :: l => [.code as, .code body] :: codesH l
 | _ :: l => codesH l
def pickH (S : Sub) (h : SHeap) : SHeap → SHeap
 | [] => []
 | (n, o) :: l => (match lk h (nmA S.a n) with
  | some a => (n, a) :: pickH S h l
  | none => (n, o) :: pickH S h l)
def subTodos (S : Sub) : List (List SItem) → List (List SItem)
 | [] => []
 | t :: l => subTodo S t :: subTodos S l
def codesOf (S : Sub) (C : Cfg) : List (List SItem) := subTodos S (codesF (C.top :: C.rest)) ++ codesH C.heap
inductive View where
 | done (l : Leaf)
 | cut (k : Nat) (pc : List BE) (S : Sub) (codes : List (List SItem))
 | bad (k : Nat) (why : Nat) (S : Sub) (C : Cfg)
def fixA : List (Nat × Nat) → Bool
 | [] => true
 | (n, m) :: l => if Nat.ble 1000000 n then (if Nat.blt n 1001000 then (if Nat.beq n m then fixA l else false) else fixA l) else fixA l
def subOf (Ck C : Cfg) : Sub := colH 1000 C.heap Ck.heap (colFs (Ck.top :: Ck.rest) (C.top :: C.rest) Sub.nil)
def fitWith (roms : List (Nat × (Nat × List CK))) (k : Nat) (Ck C : Cfg) (S : Sub) : View :=
 if fitFs C.pc S (Ck.top :: Ck.rest) (C.top :: C.rest) then (if fitH C.pc S C.heap Ck.heap then (if apartN S Ck.heap [] then (if fixA S.a then (if insK (.lit true :: C.pc) S.i then (if okLs roms (.lit true :: C.pc) Ck.heap S.l then (if keysOk S then (if okPc (.lit true :: C.pc) S Ck.pc then .cut k C.pc S (codesF (C.top :: C.rest) ++ codesH (pickH S C.heap Ck.heap)) else .bad k 5 S C) else .bad k 7 S C) else .bad k 8 S C) else .bad k 4 S C) else .bad k 9 S C) else .bad k 3 S C) else .bad k 2 S C) else .bad k 1 S C
def viewP (roms : List (Nat × (Nat × List CK))) (tm : List (Nat × Cfg)) : Piece → View
 | .done l => .done l
 | .cut k C => (match lk tm k with
  | some Ck => fitWith roms k Ck C (subOf Ck C)
  | none => .bad k 6 Sub.nil C)
def viewL (roms : List (Nat × (Nat × List CK))) (tm : List (Nat × Cfg)) : List Piece → List View
 | [] => []
 | p :: l => viewP roms tm p :: viewL roms tm l
inductive VOut where
 | ok (l : List View)
 | fail (n at_ : Nat)
def viewO (roms : List (Nat × (Nat × List CK))) (tm : List (Nat × Cfg)) : POut → VOut
 | .ok l => .ok (viewL roms tm l)
 | .fail n a => .fail n a
def oapp (o : Option (List SItem)) (k : List SItem) : Option (List SItem) := match o with
 | some l => some (l ++ k)
 | none => none
def oor (o p : Option (List SItem)) : Option (List SItem) := match o with
 | some l => some l
 | none => p
def nLoops : Code → Nat
 | .seq a b => Nat.add (nLoops a) (nLoops b)
 | .cond _ a b => Nat.add (nLoops a) (nLoops b)
 | .block _ b => nLoops b
 | .loop b => Nat.succ (nLoops b)
 | .scope b => nLoops b
 | _ => 0
def loopTodo : Code → Nat → Option (List SItem)
 | .seq a b, n => if Nat.blt n (nLoops a) then oapp (loopTodo a n) [.code b] else loopTodo b (Nat.sub n (nLoops a))
 | .cond _ a b, n => if Nat.blt n (nLoops a) then loopTodo a n else loopTodo b (Nat.sub n (nLoops a))
 | .block id b, n => oapp (loopTodo b n) [.inBlock id]
 | .loop b, 0 => some [.code b, .inLoop b]
 | .loop b, n + 1 => oapp (loopTodo b n) [.inLoop b]
 | .scope b, n => oapp (loopTodo b n) [.inScope b]
 | _, _ => none
def callTodo : Code → Nat → List Nat → Option (List SItem)
 | .seq a b, id, r => oor (oapp (callTodo a id r) [.code b]) (callTodo b id r)
 | .cond _ a b, id, r => oor (callTodo a id r) (callTodo b id r)
 | .block k b, id, r => oapp (callTodo b id r) [.inBlock k]
 | .loop b, id, r => oapp (callTodo b id r) [.inLoop b]
 | .scope b, id, r => oapp (callTodo b id r) [.inScope b]
 | .region k ops _, id, r => if Nat.beq k id then some [.inRegion ops r] else none
 | _, _, _ => none
def atTodo : Code → Nat → Option (List SItem)
 | .seq a b, id => oor (oapp (atTodo a id) [.code b]) (atTodo b id)
 | .cond _ a b, id => oor (atTodo a id) (atTodo b id)
 | .block k b, id => oapp (atTodo b id) [.inBlock k]
 | .loop b, id => oapp (atTodo b id) [.inLoop b]
 | .scope b, id => oapp (atTodo b id) [.inScope b]
 | .region k ops d, id => if Nat.beq k id then some [.code (.region k ops d)] else none
 | _, _ => none
def nRanges : Code → Nat
 | .seq a b => Nat.add (nRanges a) (nRanges b)
 | .cond _ a b => Nat.add (nRanges a) (nRanges b)
 | .block _ b => nRanges b
 | .loop b => nRanges b
 | .scope b => nRanges b
 | .rangeFunc _ _ _ _ => 1
 | _ => 0
def rangeTodo : Code → Nat → Nat → Option (List SItem)
 | .seq a b, n, l => if Nat.blt n (nRanges a) then oapp (rangeTodo a n l) [.code b] else rangeTodo b (Nat.sub n (nRanges a)) l
 | .cond _ a b, n, l => if Nat.blt n (nRanges a) then rangeTodo a n l else rangeTodo b (Nat.sub n (nRanges a)) l
 | .block id b, n, l => oapp (rangeTodo b n l) [.inBlock id]
 | .loop b, n, l => oapp (rangeTodo b n l) [.inLoop b]
 | .scope b, n, l => oapp (rangeTodo b n l) [.inScope b]
 | .rangeFunc _ _ _ _, 0, l => some [.inRange l]
 | _, _, _ => none
def rangeCode : Code → Nat → Option (Code × Code)
 | .seq a b, n => if Nat.blt n (nRanges a) then rangeCode a n else rangeCode b (Nat.sub n (nRanges a))
 | .cond _ a b, n => if Nat.blt n (nRanges a) then rangeCode a n else rangeCode b (Nat.sub n (nRanges a))
 | .block _ b, n => rangeCode b n
 | .loop b, n => rangeCode b n
 | .scope b, n => rangeCode b n
 | .rangeFunc _ _ as b, 0 => some (as, b)
 | _, _ => none
def bodyOf (T : Tab) (f : Nat) : Code := match T.fn.get f with
 | some F => (match F.body with
  | some c => c
  | none => .skip)
 | none => .skip
def ogt (o : Option (List SItem)) : List SItem := match o with
 | some l => l
 | none => []
end
end Go.Proofs.Ythenenacmiiphaa.Sx
namespace Go.Proofs.Ythenenacmiiphaa.Sx
open Go
section
variable {ρ : Rho} {S : Sub} {pc : List BE}
theorem todo_sb (k : List SItem) : (subTodo S k).map (SItem.den ρ) = k.map (SItem.den (ρ.sb S)) := by
  induction k with
  | nil => rfl
  | cons i k ih => cases i <;> simp [subTodo, SItem.sb, SItem.den, Rho.sb, ih]
end
def okNs (N : Nat) : List Nat → Bool
 | [] => true
 | n :: l => if Nat.blt n N then okNs N l else false
def okSl (N : Nat) : Slots → Bool
 | [] => true
 | l :: r => if okNs N (SV.namesL l) then okSl N r else false
noncomputable def okItem (N : Nat) : SItem → Bool
 | .code c => codeOk c
 | .inLoop c => codeOk c
 | .inScope c => codeOk c
 | .inRange n => Nat.blt n N
 | .endRange n => Nat.blt n N
 | _ => true
noncomputable def okItems (N : Nat) : List SItem → Bool
 | [] => true
 | i :: k => if okItem N i then okItems N k else false
def okD (N : Nat) : List (Nat × (List SV × List SV)) → Bool
 | [] => true
 | (_, (a, c)) :: l => if okNs N (SV.namesL a) then (if okNs N (SV.namesL c) then okD N l else false) else false
noncomputable def okF (N : Nat) (f : SFrame) : Bool :=
 if okD N f.md.dcs then (if okSl N f.tmps then (if okItems N f.todo then (if okNs N f.defers then (match f.md.st, f.round with
  | .run, none => true
  | .run, some n => Nat.blt n N
  | _, _ => false) else false) else false) else false) else false
noncomputable def okFs (N : Nat) : List SFrame → Bool
 | [] => true
 | f :: l => if okF N f then okFs N l else false
def okH (N : Nat) : SHeap → Bool
 | [] => true
 | (n, o) :: l => if Nat.blt n N then (if okNs N o.names then okH N l else false) else false
noncomputable def cfgOk (C : Cfg) : Bool := if okFs C.next (C.top :: C.rest) then okH C.next C.heap else false
section
variable {ρ : Rho} {S : Sub} {b0 : World} {pc : List BE}
theorem okNs_ok {N : Nat} : ∀ (l : List Nat), okNs N l = true → ∀ n ∈ l, n < N
 | [], _, n, hn => by simp at hn
 | m :: l, h, n, hn => by
  simp only [okNs] at h
  split at h
  ·rename_i h1
   rcases List.mem_cons.1 hn with rfl | hn
   ·simpa [Nat.blt_eq] using h1
   ·exact okNs_ok l h n hn
  ·cases h
theorem okSl_ok {N : Nat} : ∀ (t : Slots), okSl N t = true → ∀ l ∈ t, ∀ v ∈ l, NamesV N v
 | [], _, l, hl => by simp at hl
 | m :: t, h, l, hl => by
  simp only [okSl] at h
  split at h
  ·rename_i h1
   rcases List.mem_cons.1 hl with rfl | hl
   ·intro v hv n hn
    exact okNs_ok _ h1 n (mem_namesL.2 ⟨v, hv, hn⟩)
   ·exact okSl_ok t h l hl
  ·cases h
theorem okSl_names {N : Nat} {t : Slots} (h : okSl N t = true) : SNames N t := by
 intro i v hv
 rw [get2_eq] at hv
 cases hc : t[i / 8]? with
 | none => simp [hc] at hv
 | some l =>
  simp only [hc, Option.bind_some] at hv
  exact okSl_ok t h l (List.mem_of_getElem? hc) v (List.mem_of_getElem? hv)
theorem okItem_ok {N : Nat} {i : SItem} (h : okItem N i = true) : i.okI N := by
 cases i <;> simp [okItem, SItem.okI, Nat.blt_eq] at h ⊢ <;> exact h
theorem okItems_ok {N : Nat} : ∀ (k : List SItem), okItems N k = true → ∀ i ∈ k, i.okI N
 | [], _, i, hi => by simp at hi
 | j :: k, h, i, hi => by
  simp only [okItems] at h
  split at h
  ·rename_i h1
   rcases List.mem_cons.1 hi with rfl | hi
   ·exact okItem_ok h1
   ·exact okItems_ok k h i hi
  ·cases h
theorem okH_ok {N : Nat} : ∀ (h : SHeap), okH N h = true → HNames N h
 | [], _, n, o, hl => by simp [lk_nil] at hl
 | (m, p) :: h, hk, n, o, hl => by
  simp only [okH] at hk
  split at hk
  ·rename_i h1
   split at hk
   ·rename_i h2
    rw [lk_cons] at hl
    split at hl
    ·rename_i e
     subst e
     cases hl
     exact ⟨by simpa [Nat.blt_eq] using h1, okNs_ok _ h2⟩
    ·exact okH_ok h hk n o hl
   ·cases hk
  ·cases hk
theorem okD_ok {N : Nat} : ∀ (l : List (Nat × (List SV × List SV))), okD N l = true → ∀ d ∈ l, NamesL N d.2.1 ∧ NamesL N d.2.2
 | [], _, d, hd => by cases hd
 | (g, (a, c)) :: l, h, d, hd => by
  simp only [okD] at h
  obtain ⟨h1, h⟩ := ifb h
  obtain ⟨h2, h3⟩ := ifb h
  rcases List.mem_cons.1 hd with rfl | hd
  ·exact ⟨NamesL.iff.2 (okNs_ok _ h1), NamesL.iff.2 (okNs_ok _ h2)⟩
  ·exact okD_ok l h3 d hd
theorem fitD_den (hρ : ρ.Ok) (hp : Holds ρ pc) : ∀ (t a : List (Nat × (List SV × List SV))), fitD pc S t a = true → dcOf ρ a = dcOf (ρ.sb S) t
 | [], [], _ => rfl
 | [], _ :: _, h => by cases h
 | _ :: _, [], h => by cases h
 | (f, (a, c)) :: l, (g, (b, d)) :: m, h => by
  simp only [fitD] at h
  obtain ⟨h1, h⟩ := ifb h
  obtain ⟨h2, h⟩ := ifb h
  obtain ⟨h3, h4⟩ := ifb h
  have ih := fitD_den hρ hp l m h4
  unfold dcOf at ih ⊢
  have e1 : f = g := by simpa using h1
  rw [List.map_cons, List.map_cons, ih, ← SV.beqL_eq _ _ h2, ← SV.beqL_eq _ _ h3, SV.sbL_den hρ hp, SV.sbL_den hρ hp, e1]
theorem frame_sb (hρ : ρ.Ok) (hp : Holds ρ pc) {N M : Nat} {t a : SFrame} {f : Frame} (hok : okF N t = true) (hf : fitF pc S t a = true) (hc : a.todo = subTodo S t.todo) (h : FrameR ρ M a f) : FrameR (ρ.sb S) N t f := by
 unfold fitF at hf
 split at hf
 ·rename_i h1
  split at hf
  ·rename_i h2
   split at hf
   ·rename_i h3
    split at hf
    ·rename_i hm
     have e1 := Nat.eq_of_beq_eq_true h1
     have e3 := eqNs_eq _ _ h3
     rw [subNs_eq] at e3
     have e4 : a.round = t.round.map (nmA S.a) := by
      unfold eqON at hf
      split at hf
      ·rename_i q1 q2; rw [q1, q2]
      ·rename_i n m q1 q2; rw [q1, q2, Nat.eq_of_beq_eq_true hf]
      ·cases hf
     obtain ⟨hr1, hr2, hd1, hd2, hfd⟩ : t.md.st = .run ∧ a.md.st = .run ∧ t.md.dfd = false ∧ a.md.dfd = false ∧ fitD pc S t.md.dcs a.md.dcs = true := by
      unfold fitM at hm
      split at hm
      ·rename_i q1 q2
       split at hm
       ·rename_i q3 q4
        exact ⟨q1, q2, q3, q4, hm⟩
       ·cases hm
      ·cases hm
     unfold okF at hok
     obtain ⟨o0, hok⟩ := ifb hok
     split at hok
     ·rename_i o1
      split at hok
      ·rename_i o2
       split at hok
       ·rename_i o3
        refine ⟨?_, slots_sb hρ hp h2 h.slots, okSl_names o1, okItems_ok _ o2, okNs_ok _ o3, ?_, fun hh => (by rw [hr1] at hh; cases hh), ⟨fun v r hh => (by rw [hr1] at hh; cases hh), okD_ok _ o0⟩⟩
        ·rw [h.eq, hr2, hr1, hc, todo_sb, ← e1]
         simp [dfs, rk, fitD_den hρ hp _ _ hfd, ← e3, e4, hd1, hd2, ssDen, defsOf, Rho.sb, Function.comp_def]
        ·intro n hn
         rw [hr1, hn] at hok
         simpa [Nat.blt_eq] using hok
       ·cases hok
      ·cases hok
     ·cases hok
    ·cases hf
   ·cases hf
  ·cases hf
 ·cases hf
theorem frames_sb (hρ : ρ.Ok) (hp : Holds ρ pc) {N M : Nat} : ∀ (t a : List SFrame) (fs : List Frame), okFs N t = true → fitFs pc S t a = true → codesF a = subTodos S (codesF t) → FramesR ρ M a fs → FramesR (ρ.sb S) N t fs
 | [], [], fs, _, _, _, h => by cases h; exact .nil
 | [], _ :: _, fs, _, hf, _, _ => by simp [fitFs] at hf
 | _ :: _, [], fs, _, hf, _, _ => by simp [fitFs] at hf
 | t :: ts, a :: as, fs, hok, hf, hc, h => by
  cases h with
  | cons h hs =>
   simp only [okFs] at hok
   simp only [fitFs] at hf
   simp only [codesF, subTodos, List.cons.injEq] at hc
   split at hok
   ·rename_i o1
    split at hf
    ·rename_i f1
     exact .cons (frame_sb hρ hp o1 f1 hc.1 h) (frames_sb hρ hp ts as _ hok hf hc.2 hs)
    ·cases hf
   ·cases hok
theorem heap_fit {h : SHeap} : ∀ (t : SHeap), fitH pc S h t = true → codesH (pickH S h t) = codesH t → ∀ n o, lk t n = some o → ∃ a, lk h (nmA S.a n) = some a ∧ fitO pc S o a = true ∧ sameCode o a
 | [], _, _, n, o, hl => by simp [lk_nil] at hl
 | (m, p) :: t, hf, hc, n, o, hl => by
  simp only [fitH] at hf
  split at hf
  ·rename_i a ha
   split at hf
   ·rename_i h1
    simp only [pickH, ha] at hc
    have key : codesH (pickH S h t) = codesH t ∧ sameCode p a := by
     revert hc
     cases p <;> cases a <;> simp [fitO] at h1 <;> simp [codesH, sameCode]
     intro q1 q2 q3; exact ⟨q3, q1, q2⟩
    rw [lk_cons] at hl
    split at hl
    ·rename_i e
     subst e
     cases hl
     exact ⟨a, ha, h1, key.2⟩
    ·exact heap_fit t hf key.1 n o hl
   ·cases hf
  ·cases hf
theorem heap_sb (hρ : ρ.Ok) (hp : Holds ρ pc) {h t : SHeap} {w : World} (hf : fitH pc S h t = true) (hap : apartN S t [] = true) (hc : codesH (pickH S h t) = codesH t) (H : HeapR ρ b0 h w) : HeapR (ρ.sb S) b0 t w := by
 have fit := heap_fit t hf hc
 have ap := (apartN_ok t [] hap).2
 refine ⟨H.g0, ?_, ?_, ?_⟩
 ·intro n o hl
  obtain ⟨a, ha, h1, h2⟩ := fit n o hl
  obtain ⟨obj, q1, q2⟩ := H.at_ _ _ ha
  exact ⟨obj, q1, obj_sb hρ hp h1 h2 q2⟩
 ·intro n o hl
  obtain ⟨a, ha, _⟩ := fit n o hl
  exact H.own _ _ ha
 ·intro n m o p hn hm he
  obtain ⟨a, ha, _⟩ := fit n o hn
  obtain ⟨b, hb, _⟩ := fit m p hm
  exact ap n m o p hn hm (H.inj _ _ _ _ ha hb he)
theorem keysN_ok {α : Type} : ∀ {l : List (Nat × α)}, keysN l = true → ∀ n, n < 1000 → lk l n = none
 | [], _, n, _ => lk_nil n
 | (m, a) :: l, h, n, hn => by
  simp only [keysN] at h
  split at h
  ·rename_i h1
   have := Nat.le_of_ble_eq_true h1
   rw [lk_cons, if_neg (by omega)]
   exact keysN_ok h n hn
  ·cases h
theorem keysI_ok : ∀ {l : List (IntKind × Nat × IE)}, keysI l = true → ∀ k n, n < 1000 → lkI l k n = none
 | [], _, k, n, _ => rfl
 | (j, m, a) :: l, h, k, n, hn => by
  simp only [keysI] at h
  split at h
  ·rename_i h1
   have := Nat.le_of_ble_eq_true h1
   simp only [lkI]
   have hm : Nat.beq m n = false := by
    cases hb : Nat.beq m n with
    | false => rfl
    | true => have := Nat.eq_of_beq_eq_true hb; omega
   rw [hm]
   split
   ·exact keysI_ok h k n hn
   ·exact keysI_ok h k n hn
  ·cases h
structure Frz (ρ ρ' : Rho) : Prop where
 i : ∀ k n, n < 1000 → ρ'.i k n = ρ.i k n
 b : ∀ n, n < 1000 → ρ'.b n = ρ.b n
 l : ∀ n, n < 1000 → ρ'.l n = ρ.l n
 z : ρ'.z = ρ.z
 v : ∀ n, n < 1000 → ρ'.v n = ρ.v n
theorem Frz.refl (ρ : Rho) : Frz ρ ρ := ⟨fun _ _ _ => rfl, fun _ _ => rfl, fun _ _ => rfl, rfl, fun _ _ => rfl⟩
theorem Frz.trans {a b c : Rho} (h : Frz a b) (g : Frz b c) : Frz a c := ⟨fun k n hn => (g.i k n hn).trans (h.i k n hn), fun n hn => (g.b n hn).trans (h.b n hn), fun n hn => (g.l n hn).trans (h.l n hn), g.z.trans h.z, fun n hn => (g.v n hn).trans (h.v n hn)⟩
theorem Same.frz {a b : Rho} (h : Same a b) : Frz a b := ⟨fun k n _ => by rw [h.i], fun n _ => by rw [h.b], fun n _ => by rw [h.l], h.z, fun n _ => by rw [h.v]⟩
theorem keysOk_frz (h : keysOk S = true) : Frz ρ (ρ.sb S) := by
 unfold keysOk at h
 split at h
 ·rename_i h1
  split at h
  ·rename_i h2
   split at h
   ·rename_i h3
    split at h
    ·rename_i h4
     refine ⟨fun k n hn => ?_, fun n hn => ?_, fun n hn => ?_, ?_, fun n hn => ?_⟩
     ·show (match lkI S.i k n with | some e => e.den ρ | none => ρ.i k n) = _
      rw [keysI_ok h1 k n hn]
     ·show (match lk S.b n with | some e => e.den ρ | none => ρ.b n) = _
      rw [keysN_ok h2 n hn]
     ·show (match lk S.l n with | some e => e.den ρ | none => ρ.l n) = _
      rw [keysN_ok h3 n hn]
     ·show ({ ρ.z with rl := fun r => match lk S.r r with | some l => l.den ρ | none => ρ.z.rl r } : Env) = ρ.z
      rw [h4]
      simp only [lk_nil]
     ·show (match lk S.v n with | some v => v.den ρ | none => ρ.v n) = _
      rw [keysN_ok h n hn]
    ·cases h
   ·cases h
  ·cases h
 ·cases h
theorem sb_Ok (hρ : ρ.Ok) (hp : Holds ρ pc) {pc0 : List BE} (hp0 : Holds ρ pc0) {roms : List (Nat × (Nat × List CK))} (hr : RTyped roms ρ) {t : SHeap} {h : SHeap} {w : World} (H : HeapR ρ b0 h w) (h1 : insK pc S.i = true) (h2 : okLs roms pc t S.l = true) (h3 : keysOk S = true) (h4 : fitH pc0 S h t = true) : (ρ.sb S).Ok := sb_OkZ hρ hp hp0 hr H h1 h2 (keysOk_frz (ρ := ρ) h3).z h4
theorem mark_den {p : BE} (h : isMark p = true) : p.den ρ = true := by
 unfold isMark at h
 split at h
 ·simp [BE.den]
 ·cases h
theorem okPc_ok (hρ : ρ.Ok) {pc : List BE} (hp : Holds ρ pc) : ∀ (l : List BE), okPc pc S l = true → Holds (ρ.sb S) (leanOf l) → Holds (ρ.sb S) l
 | [], _, _ => fun p hp => by cases hp
 | c :: l, h, hl => by
  simp only [okPc] at h
  simp only [leanOf] at hl
  split at h
  ·rename_i hm
   rw [if_pos hm] at hl
   exact Holds.cons hl (mark_den hm)
  ·rename_i hm
   rw [if_neg hm] at hl
   split at h
   ·rename_i h1
    refine Holds.cons (okPc_ok hρ hp l h hl) ?_
    rw [← BE.sb_den hρ hp]
    exact dec_den hρ hp _ _ h1
   ·cases h
theorem fit_ok {roms : List (Nat × (Nat × List CK))} {k : Nat} {Ck C : Cfg} {k' : Nat} {pc : List BE} {S0 S : Sub} {X : List (List SItem)} {w : World} {f : Frame} {fs : List Frame} (hfit : fitWith roms k Ck C S0 = .cut k' pc S X) (hX : X = codesOf S Ck) (hok : cfgOk Ck = true) (hρ : ρ.Ok) (hr : RTyped roms ρ) (R : CfgR ρ b0 C w f fs) (hl : (ρ.sb S).Ok → Frz ρ (ρ.sb S) → HeapR (ρ.sb S) b0 Ck.heap w → Holds (ρ.sb S) (leanOf Ck.pc)) :
    k' = k ∧ pc = C.pc ∧ (ρ.sb S).Ok ∧ Frz ρ (ρ.sb S) ∧ CfgR (ρ.sb S) b0 Ck w f fs := by
  unfold fitWith at hfit
  split at hfit
  · rename_i h1
    split at hfit
    · rename_i h2
      split at hfit
      · rename_i h3
        split at hfit
        · rename_i h9
          split at hfit
          · rename_i h4
            split at hfit
            · rename_i h6
              split at hfit
              · rename_i h7
                split at hfit
                · rename_i h5
                  simp only [View.cut.injEq] at hfit
                  obtain ⟨rfl, rfl, rfl, rfl⟩ := hfit
                  unfold cfgOk at hok
                  split at hok
                  · rename_i o1
                    have hlen : ∀ (t a : List SFrame), fitFs C.pc S0 t a = true → (codesF a).length = (subTodos S0 (codesF t)).length := by
                      intro t
                      induction t with
                      | nil => intro a ha; cases a <;> simp [fitFs] at ha; rfl
                      | cons x t ih =>
                        intro a ha
                        cases a with
                        | nil => simp [fitFs] at ha
                        | cons y a =>
                          simp only [fitFs] at ha
                          split at ha
                          · simp [codesF, subTodos, ih a ha]
                          · cases ha
                    have hcs : codesF (C.top :: C.rest) = subTodos S0 (codesF (Ck.top :: Ck.rest)) ∧ codesH (pickH S0 C.heap Ck.heap) = codesH Ck.heap := by
                      unfold codesOf at hX
                      exact List.append_inj hX (hlen _ _ h1)
                    have hfr := frames_sb (ρ := ρ) hρ R.pc (N := Ck.next) (M := C.next) _ _ (f :: fs) o1 h1 hcs.1 (.cons R.top R.rest)
                    have hpT : Holds ρ (.lit true :: C.pc) := R.pc.cons (p := .lit true) (by simp only [BE.den])
                    cases hfr with
                    | cons a b =>
                      have k1 := sb_Ok hρ hpT R.pc hr R.heap h4 h6 h7 h2
                      have k2 := heap_sb hρ R.pc h2 h3 hcs.2 R.heap
                      exact ⟨rfl, rfl, k1, keysOk_frz h7, a, b, k2, okH_ok _ hok, okPc_ok hρ hpT _ h5 (hl k1 (keysOk_frz h7) k2)⟩
                  · cases hok
                · cases hfit
              · cases hfit
            · cases hfit
          · cases hfit
        · cases hfit
      · cases hfit
    · cases hfit
  · cases hfit
theorem fit_heap {roms : List (Nat × (Nat × List CK))} {k : Nat} {Ck C : Cfg} {k' : Nat} {pc : List BE} {S0 S : Sub} {X : List (List SItem)} (hfit : fitWith roms k Ck C S0 = .cut k' pc S X) : S = S0 ∧ fitH C.pc S0 C.heap Ck.heap = true ∧ fixA S0.a = true := by
 unfold fitWith at hfit
 split at hfit
 ·split at hfit
  ·rename_i h2
   split at hfit
   ·split at hfit
    ·rename_i h4
     refine ⟨?_, h2, h4⟩
     (repeat' split at hfit) <;> first
      | (cases hfit; rfl)
      | (cases hfit; done)
    ·cases hfit
   ·cases hfit
  ·cases hfit
 ·cases hfit
theorem fixA_ok : ∀ {l : List (Nat × Nat)}, fixA l = true → ∀ n, 1000000 ≤ n → n < 1001000 → nmA l n = n
 | [], _, n, _, _ => rfl
 | (k, m) :: l, h, n, h1, h2 => by
  have hc : nmA ((k, m) :: l) n = if k = n then m else nmA l n := by
   unfold nmA
   rw [lk_cons]
   by_cases e : k = n <;> simp [e]
  rw [hc]
  unfold fixA at h
  split at h
  ·rename_i q1
   split at h
   ·rename_i q2
    obtain ⟨q3, q4⟩ := ifb h
    split
    ·rename_i e; rw [← e]; exact (Nat.eq_of_beq_eq_true q3).symm
    ·exact fixA_ok q4 n h1 h2
   ·rename_i q2
    split
    ·rename_i e
     subst e
     exact absurd (by simpa [Nat.blt_eq] using h2) q2
    ·exact fixA_ok h n h1 h2
  ·rename_i q1
   split
   ·rename_i e
    subst e
    exact absurd (show Nat.ble _ _ = true by rw [Nat.ble_eq]; exact h1) q1
   ·exact fixA_ok h n h1 h2
end
end Go.Proofs.Ythenenacmiiphaa.Sx
namespace Go.Proofs.Ythenenacmiiphaa.Sx
open Go
section
variable {P : Program} {T : Tab} {b0 : World} {sel : Sel}
def PieceOk (P : Program) (b0 : World) (C : Cfg) (ρ : Rho) (w : World) (f : Frame) (fs cs : List Frame) : Piece → Prop
 | .done lf => Holds ρ lf.pc ∧ ∃ ρ' w' f', Same ρ ρ' ∧ Steps P (lone f (fs ++ cs) w) (lone f' cs w') ∧ f'.leaving P w' (endS ρ' lf.val) ∧ f'.fn = bot C.top C.rest ∧ HeapR ρ' b0 lf.heap w' ∧ Fr ρ C.heap w ρ' lf.heap w' ∧ ∀ n, n < C.next → ρ'.a n = ρ.a n
 | .cut _ C' => Holds ρ C'.pc ∧ ∃ ρ' w' f' fs', Same ρ ρ' ∧ Steps P (lone f (fs ++ cs) w) (lone f' (fs' ++ cs) w') ∧ CfgR ρ' b0 C' w' f' fs' ∧ bot C'.top C'.rest = bot C.top C.rest ∧ Fr ρ C.heap w ρ' C'.heap w' ∧ ∀ n, n < C.next → ρ'.a n = ρ.a n
theorem PieceOk.before {C C1 : Cfg} {ρ ρ1 : Rho} {w w1 : World} {f f1 : Frame} {fs fs1 cs : List Frame} {p : Piece} (hn : HNames C.next C.heap) (hm : Move ρ ρ1 b0 C.heap C1.heap C.next C1.next w w1) (hst : Steps P (lone f (fs ++ cs) w) (lone f1 (fs1 ++ cs) w1)) (hb : bot C1.top C1.rest = bot C.top C.rest) (h : PieceOk P b0 C1 ρ1 w1 f1 fs1 cs p) : PieceOk P b0 C ρ w f fs cs p := by
 have g := hm.agr.same
 cases p with
 | done lf =>
  obtain ⟨h1, ρ', w', f', h2, h3, h4, h5, h6, h7, h8⟩ := h
  exact ⟨(g.holds).1 h1, ρ', w', f', g.trans h2, Steps.trans hst h3, h4, h5.trans hb, h6, (Fr.of_move hn hm).trans h7, fun n hlt => (h8 n (Nat.lt_of_lt_of_le hlt hm.le)).trans (hm.agr.a n (.inl hlt))⟩
 | cut k C' =>
  obtain ⟨h1, ρ', w', f', fs', h2, h3, h4, h5, h7, h8⟩ := h
  exact ⟨(g.holds).1 h1, ρ', w', f', fs', g.trans h2, Steps.trans hst h3, h4, h5.trans hb, (Fr.of_move hn hm).trans h7, fun n hlt => (h8 n (Nat.lt_of_lt_of_le hlt hm.le)).trans (hm.agr.a n (.inl hlt))⟩
theorem overC_ok {k : Cfg → POut} : ∀ (l : List Cfg) (ls : List Piece), overC k l = .ok ls → ∀ x ∈ l, ∃ lx, k x = .ok lx ∧ ∀ p ∈ lx, p ∈ ls
 | [], ls, h, x, hx => by simp at hx
 | y :: l, ls, h, x, hx => by
  simp only [overC] at h
  cases h1 : k y with
  | fail a b => rw [h1] at h; cases h
  | ok ly =>
   cases h2 : overC k l with
   | fail a b => rw [h1, h2] at h; cases h
   | ok ll =>
    rw [h1, h2] at h
    simp only [POut.app, POut.ok.injEq] at h
    subst h
    rcases List.mem_cons.1 hx with rfl | hx
    ·exact ⟨ly, h1, fun p hp => List.mem_append.2 (.inl hp)⟩
    ·obtain ⟨lx, h3, h4⟩ := overC_ok l ll h2 x hx
     exact ⟨lx, h3, fun p hp => List.mem_append.2 (.inr (h4 p hp))⟩
theorem runC_ok (hT : T.Ok P) : ∀ (n : Nat) (C : Cfg) (ls : List Piece), runC T sel n C = .ok ls → ∀ (ρ : Rho) (w : World) (f : Frame) (fs cs : List Frame), ρ.Ok → OracOk P b0 T.orac ρ → CfgR ρ b0 C w f fs → ∃ p ∈ ls, PieceOk P b0 C ρ w f fs cs p := by
  intro n
  induction n with
  | zero => intro C ls h; simp [runC] at h
  | succ n ih =>
    intro C ls h ρ w f fs cs hρ hO R
    have hstep := stepS_ok (sub := runS T n) hT (runS_ok hT n) hρ hO R n cs
    simp only [runC] at h
    split at h
    · rename_i C' hC'
      rw [hC'] at hstep
      obtain ⟨_, ρ1, w1, f1, fs1, R1, hm, hst, hbot⟩ := hstep
      have go : runC T sel n C' = .ok ls → ∃ p ∈ ls, PieceOk P b0 C ρ w f fs cs p := by
        intro h
        obtain ⟨p, hp, hk⟩ := ih C' ls h ρ1 w1 f1 fs1 cs (hm.agr.ok hρ) (hO.agr hm.agr) R1
        exact ⟨p, hp, hk.before R.names hm hst hbot⟩
      split at h
      · split at h
        · rename_i k hk
          simp only [POut.ok.injEq] at h
          subst h
          exact ⟨_, List.mem_singleton.2 rfl, (hm.agr.holds).1 R1.pc, ρ1, w1, f1, fs1, hm.agr.same, hst, R1, hbot, Fr.of_move R.names hm, fun n hl => hm.agr.a n (.inl hl)⟩
        · exact go h
      · exact go h
    · rename_i l hl
      rw [hl] at hstep
      obtain ⟨_, C', hC', ρ1, w1, f1, fs1, R1, hm, hst, hbot⟩ := hstep
      obtain ⟨lx, h1, h2⟩ := overC_ok l ls h C' hC'
      obtain ⟨p, hp, hk⟩ := ih C' lx h1 ρ1 w1 f1 fs1 cs (hm.agr.ok hρ) (hO.agr hm.agr) R1
      exact ⟨p, h2 p hp, hk.before R.names hm hst hbot⟩
    · rename_i c hc
      rw [fBE_eq] at h
      cases h1 : runC T sel n { C with pc := c :: C.pc } with
      | fail a b => rw [h1] at h; cases h
      | ok l1 =>
        cases h2 : runC T sel n { C with pc := .not c :: C.pc } with
        | fail a b => rw [h1, h2] at h; cases h
        | ok l2 =>
          rw [h1, h2] at h
          simp only [POut.app, POut.ok.injEq] at h
          subst h
          cases hd : c.den ρ with
          | true =>
            obtain ⟨p, hp, hk⟩ := ih _ _ h1 ρ w f fs cs hρ hO ⟨R.top, R.rest, R.heap, R.names, R.pc.cons hd⟩
            refine ⟨p, List.mem_append.2 (.inl hp), ?_⟩
            cases p <;> exact hk
          | false =>
            obtain ⟨p, hp, hk⟩ := ih _ _ h2 ρ w f fs cs hρ hO ⟨R.top, R.rest, R.heap, R.names, R.pc.cons (by simp [den_not, hd])⟩
            refine ⟨p, List.mem_append.2 (.inr hp), ?_⟩
            cases p <;> exact hk
    · rename_i v hv
      rw [hv] at hstep
      obtain ⟨h1, h2, h3, _⟩ := hstep
      simp only [POut.ok.injEq] at h
      subst h
      have hfs : fs = [] := by
        have := R.rest
        rw [h1] at this
        cases this; rfl
      subst hfs
      refine ⟨_, List.mem_singleton.2 rfl, R.pc, ρ, w, f, .refl ρ, .refl _ _, h2, ?_, R.heap, Fr.refl _ _ _, fun _ _ => rfl⟩
      rw [h3, h1]; rfl
    · cases h
end
noncomputable section
inductive G where
 | i (a b : IE)
 | b (a b : BE)
 | l (a b : LE)
def G.den (ρ : Rho) : G → Prop
 | .i x y => x.den ρ = y.den ρ
 | .b x y => x.den ρ = y.den ρ
 | .l x y => x.den ρ = y.den ρ
def gI (pc : List BE) (a b : IE) : List G := if a.beq b then [] else (match dec pc (mkEq a b) with
 | some true => []
 | _ => [.i a b])
def gB (pc : List BE) (a b : BE) : List G := if a.beq b then [] else (match dec pc (mkIff a b) with
 | some true => []
 | _ => (match dec (b :: pc) a, dec (mkNot b :: pc) a with
  | some true, some false => []
  | _, _ => [.b a b]))
def gL (a b : LE) : List G := if a.beq b then [] else [.l a b]
def oG (a b : Option (List G)) : Option (List G) := match a, b with
 | some x, some y => some (x ++ y)
 | _, _ => none
def gV (roms : List (Nat × (Nat × List CK))) (pc : List BE) (S : Sub) : SV → SV → Option (List G)
 | .bool a, .bool b => some (gB pc a b)
 | .int k a, .int j b => if keq k j then some (gI pc a b) else none
 | .lstr a, y => (match asL roms pc y with
  | some m => some (gL a m)
  | none => none)
 | .sll n cn z (.lit (.ofNat 0)) len none, .sll m dn y (.lit (.ofNat 0)) len' none => if Nat.beq (nmA S.a n) m then (if Nat.beq (nmA S.a cn) dn then (if Nat.beq z y then some (gI pc len len') else none) else none) else none
 | .sll n cn z (.lit (.ofNat 0)) len (some c), .sll m dn y (.lit (.ofNat 0)) len' (some c') => if Nat.beq (nmA S.a n) m then (if Nat.beq (nmA S.a cn) dn then (if Nat.beq z y then some (gI pc len len' ++ gI pc c c') else none) else none) else none
 | .const (.slice none 0 0), .const (.slice none 0 0) => some []
 | _, _ => none
def gVs (roms : List (Nat × (Nat × List CK))) (pc : List BE) (S : Sub) : List SV → List SV → Option (List G)
 | [], [] => some []
 | v :: l, u :: m => oG (gV roms pc S v u) (gVs roms pc S l m)
 | _, _ => none
def gV1 (roms : List (Nat × (Nat × List CK))) (pc : List BE) (S : Sub) : SV → SV → Option (List G)
 | .agg l, .agg m => gVs roms pc S l m
 | v, u => gV roms pc S v u
def gV1s (roms : List (Nat × (Nat × List CK))) (pc : List BE) (S : Sub) : List SV → List SV → Option (List G)
 | [], [] => some []
 | v :: l, u :: m => oG (gV1 roms pc S v u) (gV1s roms pc S l m)
 | _, _ => none
def gP (roms : List (Nat × (Nat × List CK))) (pc : List BE) (S : Sub) : SV → SV → Option (List G)
 | .iface t v, .iface u w => if Nat.beq t u then gV1 roms pc S v w else none
 | _, _ => none
def samePan (a b : SV) : Bool :=
 match panV a, panV b with
 | none, none => true
 | some _, some _ => true
 | _, _ => false
def gV2 (roms : List (Nat × (Nat × List CK))) (pc : List BE) (S : Sub) : SV → SV → Option (List G)
 | .iface t v, .iface u w => if Nat.beq t u then gP roms pc S v w else none
 | .tup l, .tup m => gV1s roms pc S l m
 | v, u => gV1 roms pc S v u
def gH (pc : List BE) (S : Sub) (h : SHeap) : SHeap → Option (List G)
 | [] => some []
 | (n, .rowl c tot ks t cn sz) :: l => (match lk h (nmA S.a n) with
  | some (.rowl c' tot' js u dn zs) => if Nat.beq t u then (if Nat.beq (nmA S.a cn) dn then (if Nat.beq sz zs then (if ksEq ks js then oG (some (gL c c' ++ gI pc tot tot')) (gH pc S h l) else none) else none) else none) else none
  | _ => none)
 | _ => none
def leafG (roms : List (Nat × (Nat × List CK))) (c : Ctr) (l : Leaf) : Option (List G) :=
 match colH 1000 l.heap c.heap (colV 1000 c.res l.val Sub.nil) with
 | S => if samePan c.res l.val then (if apartN S c.heap [] then oG (gV2 roms (.lit true :: l.pc) S c.res l.val) (gH (.lit true :: l.pc) S l.heap c.heap) else none) else none
inductive VW where
 | done (pc : List BE) (g : Option (List G))
 | cut (k : Nat) (pc : List BE) (S : Sub)
 | bad (k why : Nat)
abbrev LG := Leaf → Option (List G)
def stripV (lg : LG) : View → VW
 | .done l => .done l.pc (some ((lg l).getD [.b (.lit true) (.lit false)]))
 | .cut k pc S _ => .cut k pc ⟨S.i, S.b, S.l, [], [], S.r⟩
 | .bad k w _ _ => .bad k w
def stripL (lg : LG) : List View → List VW
 | [] => []
 | v :: l => stripV lg v :: stripL lg l
def codesL : List View → List (Nat × List (List SItem))
 | [] => []
 | .cut j _ _ X :: l => (j, X) :: codesL l
 | _ :: l => codesL l
def codesR (tm : List (Nat × Cfg)) : List View → List (Nat × List (List SItem))
 | [] => []
 | .cut j _ S _ :: l => (j, (match lk tm j with
  | some C => codesOf S C
  | none => [])) :: codesR tm l
 | _ :: l => codesR tm l
def views : VOut → List View
 | .ok l => l
 | .fail _ _ => []
def isOkV : VOut → Bool
 | .ok _ => true
 | .fail _ _ => false
def seg (T : Tab) (sel : Sel) (n : Nat) (tm : List (Nat × Cfg)) (C : Cfg) : VOut := viewO T.orac.rom tm (runC T sel n C)
def segX (lg : LG) (o : VOut) : Bool × List (Nat × List (List SItem)) × List VW := (isOkV o, codesL (views o), stripL lg (views o))
def segL (roms : List (Nat × (Nat × List CK))) (c : Ctr) (o : VOut) : Bool × List (Nat × List (List SItem)) × List VW := segX (leafG roms c) o
def capG (pc : List BE) : Option IE → Option IE → Option (List G)
 | none, none => some []
 | some a, some b => some (gI pc a b)
 | _, _ => none
mutual
def mV (roms : List (Nat × (Nat × List CK))) (pc : List BE) (S : Sub) : SV → SV → Option (List G)
 | .bool a, .bool b => some (gB pc a b)
 | .int k a, .int j b => if keq k j then some (gI pc a b) else none
 | .lstr a, y => (match asL roms pc y with
  | some m => some (gL a m)
  | none => none)
 | .ptr n o, .ptr m p => if Nat.beq (nmA S.a n) m then (if Nat.beq o p then some [] else none) else none
 | .slice n o l c, .slice m p k d => if Nat.beq (nmA S.a n) m then (if Nat.beq o p then (if Nat.beq l k then (if Nat.beq c d then some [] else none) else none) else none) else none
 | .sl n cn z o l, .sl m dn y p k => if Nat.beq (nmA S.a n) m then (if Nat.beq (nmA S.a cn) dn then (if Nat.beq z y then (if Nat.beq o p then (if Nat.beq l k then some [] else none) else none) else none) else none) else none
 | .sll n cn z o l c, .sll m dn y p k d => if Nat.beq (nmA S.a n) m then (if Nat.beq (nmA S.a cn) dn then (if Nat.beq z y then oG (some (gI pc o p)) (oG (some (gI pc l k)) (capG pc c d)) else none) else none) else none
 | .rom r o l c, .rom q p k d => if Nat.beq r q then oG (some (gI pc o p)) (oG (some (gI pc l k)) (capG pc c d)) else none
 | .const a, .const b => if SV.beq (.const a) (.const b) then some [] else none
 | .opq n, .opq m => if Nat.beq n m then some [] else none
 | .func fn a c, .func gn b d => (match fn, gn with
  | .func f, .func g => if Nat.beq f g then oG (mVs roms pc S a b) (mVs roms pc S c d) else none
  | _, _ => none)
 | .iface t v, .iface u x => if Nat.beq t u then mV roms pc S v x else none
 | .agg a, .agg b => mVs roms pc S a b
 | .tup a, .tup b => mVs roms pc S a b
 | _, _ => none
def mVs (roms : List (Nat × (Nat × List CK))) (pc : List BE) (S : Sub) : List SV → List SV → Option (List G)
 | [], [] => some []
 | v :: l, u :: m => oG (mV roms pc S v u) (mVs roms pc S l m)
 | _, _ => none
end
def mO (roms : List (Nat × (Nat × List CK))) (pc : List BE) (S : Sub) : SObj → SObj → Option (List G)
 | .cells a t, .cells b u => if Nat.beq t u then mVs roms pc S a b else none
 | .row a t c z, .row b u d y => if Nat.beq t u then (if Nat.beq (nmA S.a c) d then (if Nat.beq z y then mVs roms pc S a b else none) else none) else none
 | .rowl c tot ks t cn sz, .rowl c' tot' js u dn zs => if Nat.beq t u then (if Nat.beq (nmA S.a cn) dn then (if Nat.beq sz zs then (if ksEq ks js then some (gL c c' ++ gI pc tot tot') else none) else none) else none) else none
 | .mix p c n k q t, .mix p' c' n' k' q' t' => if Nat.beq t t' then (if Nat.beq n n' then (if keq k k' then oG (mVs roms pc S p p') (oG (some (gL c c')) (mVs roms pc S q q')) else none) else none) else none
 | _, _ => none
def mH (roms : List (Nat × (Nat × List CK))) (pc : List BE) (S : Sub) (h : SHeap) : SHeap → Option (List G)
 | [] => some []
 | (n, o) :: l => (match lk h (nmA S.a n) with
  | some a => oG (mO roms pc S o a) (mH roms pc S h l)
  | none => none)
def idsA : List Nat → List (Nat × Nat)
 | [] => []
 | n :: l => if Nat.blt n 1001000 then (n, n) :: idsA l else idsA l
def leafM (roms : List (Nat × (Nat × List CK))) (c : Mtr) (l : Leaf) : Option (List G) :=
 match colH 1000 l.heap c.hq (colV 1000 c.res l.val { Sub.nil with a := idsA (namesM c) }) with
 | S => if samePan c.res l.val then (if apartN S c.hq [] then (if fixA S.a then oG (mV roms (.lit true :: l.pc) S c.res l.val) (mH roms (.lit true :: l.pc) S l.heap c.hq) else none) else none) else none
def segM (roms : List (Nat × (Nat × List CK))) (c : Mtr) (o : VOut) : Bool × List (Nat × List (List SItem)) × List VW := segX (leafM roms c) o
end
structure Lt where
 i : IntKind → Nat → Int
 b : Nat → Bool
 l : Nat → LV
 z : Env
def Rho.lt (ρ : Rho) : Lt := ⟨ρ.i, ρ.b, ρ.l, ρ.z⟩
theorem Same.lt {ρ ρ' : Rho} (h : Same ρ ρ') : ρ'.lt = ρ.lt := by
 unfold Rho.lt; rw [h.i, h.b, h.l, h.z]
def RowsF (h : SHeap) (ρ : Rho) : Prop := ∀ n c tot ks t cn sz, lk h n = some (.rowl c tot ks t cn sz) → Typed ks (c.den ρ) ∧ tot.den ρ = ((c.den ρ).length : Int)
structure Known (T : Tab) (C : Cfg) (ρ : Rho) : Prop where
 ok : ρ.Ok
 F : ρ.z.F = T.orac.F
 rom : RTyped T.orac.rom ρ
 rows : RowsF C.heap ρ
 cap : ∀ r esz ks, lk T.orac.rom r = some (esz, ks) → (ρ.z.rl r).length ≤ ρ.z.rc r
def VC (T : Tab) (inv : Nat → Lt → Prop) (ms : Nat → Lt → Nat) (k : Nat) (C : Cfg) : VW → Prop
 | .done pc (some gs) => ∀ ρ, Known T C ρ → inv k ρ.lt → Holds ρ pc → ∀ g ∈ gs, g.den ρ
 | .cut j pc S => ∀ ρ, Known T C ρ → inv k ρ.lt → Holds ρ pc → inv j (ρ.sb S).lt ∧ ms j (ρ.sb S).lt < ms k ρ.lt
 | _ => False
section
variable {P : Program} {T : Tab} {b0 : World} {sel : Sel} {ρ : Rho}
theorem viewL_mem {roms : List (Nat × (Nat × List CK))} {tm : List (Nat × Cfg)} : ∀ {l : List Piece} {p : Piece}, p ∈ l → viewP roms tm p ∈ viewL roms tm l
 | x :: l, p, h => by
  rcases List.mem_cons.1 h with rfl | h
  ·exact List.mem_cons_self ..
  ·exact List.mem_cons_of_mem _ (viewL_mem h)
theorem stripL_mem {lg : LG} : ∀ {l : List View} {v : View}, v ∈ l → stripV lg v ∈ stripL lg l
 | x :: l, v, h => by
  rcases List.mem_cons.1 h with rfl | h
  ·exact List.mem_cons_self ..
  ·exact List.mem_cons_of_mem _ (stripL_mem h)
theorem codes_mem {tm : List (Nat × Cfg)} : ∀ {l : List View}, codesL l = codesR tm l → ∀ j pc S X, View.cut j pc S X ∈ l → X = (match lk tm j with
  | some C => codesOf S C
  | none => [])
 | [], _, j, pc, S, X, hv => by simp at hv
 | x :: l, h, j, pc, S, X, hv => by
  cases x with
  | cut j' pc' S' X' =>
   simp only [codesL, codesR, List.cons.injEq, Prod.mk.injEq, true_and] at h
   rcases List.mem_cons.1 hv with e | hv
   ·cases e; exact h.1
   ·exact codes_mem h.2 j pc S X hv
  | done lf =>
   rcases List.mem_cons.1 hv with e | hv
   ·cases e
   ·exact codes_mem (show codesL l = codesR tm l from h) j _ S X hv
  | bad k y S C =>
   rcases List.mem_cons.1 hv with e | hv
   ·cases e
   ·exact codes_mem (show codesL l = codesR tm l from h) j pc _ X hv
theorem rowsF {h : SHeap} {w : World} (H : HeapR ρ b0 h w) : RowsF h ρ := by
 intro n c tot ks t cn sz hl
 obtain ⟨obj, ho, rest, lo, hi, rfl, _, _, _, _, _, ht, htot⟩ := H.at_ n _ hl
 exact ⟨ht, htot⟩
theorem rowsF_same {ρ' : Rho} {h : SHeap} (g : Same ρ ρ') (H : RowsF h ρ) : RowsF h ρ' := by
 intro n c tot ks t cn sz hl
 have := H n c tot ks t cn sz hl
 rw [LE.den_same g, IE.den_same g]; exact this
theorem bot_fit {pc : List BE} {S : Sub} : ∀ (t a : List SFrame) (x y : SFrame), fitFs pc S (x :: t) (y :: a) = true → bot x t = bot y a := by
  intro t
  induction t with
  | nil =>
    intro a x y h
    cases a with
    | nil =>
      simp only [fitFs] at h
      split at h
      · rename_i h1
        unfold fitF at h1
        split at h1
        · rename_i h2; exact Nat.eq_of_beq_eq_true h2
        · cases h1
      · cases h
    | cons b a => simp [fitFs] at h
  | cons t ts ih =>
    intro a x y h
    cases a with
    | nil => simp [fitFs] at h
    | cons b a =>
      have h' : fitFs pc S (t :: ts) (b :: a) = true := by
        simp only [fitFs] at h
        split at h
        · simpa only [fitFs] using h
        · cases h
      exact ih a t b h'
theorem fit_frames {roms : List (Nat × (Nat × List CK))} {k : Nat} {Ck C : Cfg} {k' : Nat} {pc : List BE} {S0 S : Sub} {X : List (List SItem)} (hfit : fitWith roms k Ck C S0 = .cut k' pc S X) : fitFs C.pc S0 (Ck.top :: Ck.rest) (C.top :: C.rest) = true ∧ k' = k ∧ pc = C.pc := by
 unfold fitWith at hfit
 split at hfit
 ·rename_i h1
  refine ⟨h1, ?_⟩
  (repeat' split at hfit) <;> first
   | (cases hfit; exact ⟨rfl, rfl⟩)
   | (cases hfit; done)
 ·cases hfit
theorem drive (hT : T.Ok P) (n : Nat) (lg : LG) (tm : List (Nat × Cfg)) (inv : Nat → Lt → Prop) (ms : Nat → Lt → Nat) (vw : Nat → List VW) (hok : ∀ k C, lk tm k = some C → cfgOk C = true) (hseg : ∀ k C, lk tm k = some C → segX lg (seg T sel n tm C) = (true, codesR tm (views (seg T sel n tm C)), vw k))
    (hvc : ∀ k C, lk tm k = some C → ∀ v ∈ vw k, VC T inv ms k C v) (hlean : ∀ k C, lk tm k = some C → ∀ ρ, Known T C ρ → inv k ρ.lt → Holds ρ (leanOf C.pc)) (z : Env) (hO : ∀ ρ : Rho, ρ.Ok → ρ.z = z → OracOk P b0 T.orac ρ) : ∀ (q k : Nat) (C : Cfg) (ρ : Rho) (w : World) (f : Frame) (fs cs : List Frame), lk tm k = some C → ms k ρ.lt ≤ q → ρ.Ok → ρ.z = z → CfgR ρ b0 C w f fs → inv k ρ.lt →
    ∃ lf gs ρ' w' f', Frz ρ ρ' ∧ ρ'.Ok ∧ Steps P (lone f (fs ++ cs) w) (lone f' cs w') ∧ f'.leaving P w' (endS ρ' lf.val) ∧ f'.fn = bot C.top C.rest ∧ HeapR ρ' b0 lf.heap w' ∧ Fr ρ C.heap w ρ' lf.heap w' ∧ ((∀ k C, lk tm k = some C → 1001000 ≤ C.next) → ∀ n, 1000000 ≤ n → n < 1001000 → ρ'.a n = ρ.a n) ∧ Holds ρ' lf.pc ∧ lg lf = some gs ∧ ∀ g ∈ gs, g.den ρ' := by
  have one : ∀ (k : Nat) (C : Cfg) (ρ : Rho) (w : World) (f : Frame) (fs cs : List Frame), lk tm k = some C → ρ.Ok → ρ.z = z → CfgR ρ b0 C w f fs → inv k ρ.lt →
      (∃ lf gs ρ' w' f', Frz ρ ρ' ∧ ρ'.Ok ∧ Steps P (lone f (fs ++ cs) w) (lone f' cs w') ∧ f'.leaving P w' (endS ρ' lf.val) ∧ f'.fn = bot C.top C.rest ∧ HeapR ρ' b0 lf.heap w' ∧ Fr ρ C.heap w ρ' lf.heap w' ∧ ((∀ k C, lk tm k = some C → 1001000 ≤ C.next) → ∀ n, 1000000 ≤ n → n < 1001000 → ρ'.a n = ρ.a n) ∧ Holds ρ' lf.pc ∧ lg lf = some gs ∧ ∀ g ∈ gs, g.den ρ') ∨
      (∃ j C' ρ' w' f' fs', lk tm j = some C' ∧ ms j ρ'.lt < ms k ρ.lt ∧ ρ'.Ok ∧ ρ'.z = z ∧ Frz ρ ρ' ∧ CfgR ρ' b0 C' w' f' fs' ∧ inv j ρ'.lt ∧ Steps P (lone f (fs ++ cs) w) (lone f' (fs' ++ cs) w') ∧ bot C'.top C'.rest = bot C.top C.rest ∧ Fr ρ C.heap w ρ' C'.heap w' ∧ ((∀ k C, lk tm k = some C → 1001000 ≤ C.next) → ∀ n, 1000000 ≤ n → n < 1001000 → ρ'.a n = ρ.a n)) := by
    intro k C ρ w f fs cs hk hρ hz R hi
    have hs := hseg k C hk
    simp only [segX, Prod.mk.injEq] at hs
    obtain ⟨s1, s2, s3⟩ := hs
    have hO' := hO ρ hρ hz
    have known : Known T C ρ := ⟨hρ, hO'.F, hO'.rom.typed, rowsF R.heap, fun r esz ks hl => (hO'.rom.2 r esz ks hl).2.2.2.2.1⟩
    unfold seg at s1 s2 s3
    cases hr : runC T sel n C with
    | fail a b => rw [hr] at s1; simp [viewO, isOkV] at s1
    | ok ls =>
      rw [hr] at s2 s3
      simp only [viewO, views] at s2 s3
      obtain ⟨p, hp, hpk⟩ := runC_ok hT n C ls hr ρ w f fs cs hρ hO' R
      have hvm := viewL_mem (roms := T.orac.rom) (tm := tm) hp
      have hsm := stripL_mem (lg := lg) hvm
      rw [s3] at hsm
      have hv := hvc k C hk _ hsm
      have known' : ∀ ρ', Same ρ ρ' → Known T C ρ' := fun ρ' hsame => ⟨hsame.ok hρ, by rw [hsame.z]; exact hO'.F, (by intro r esz ks hl; rw [hsame.z]; exact hO'.rom.typed r esz ks hl), rowsF_same hsame known.rows, (by intro r esz ks hl; rw [hsame.z]; exact (hO'.rom.2 r esz ks hl).2.2.2.2.1)⟩
      cases p with
      | done lf =>
        obtain ⟨hh, ρ', w', f', hsame, hst, hlv, hfn, hH, hFr, hold⟩ := hpk
        left
        simp only [viewP, stripV] at hv
        cases hg : lg lf with
        | none =>
          rw [hg] at hv
          have h0 : G.den ρ' (.b (.lit true) (.lit false)) := hv ρ' (known' ρ' hsame) (by rw [hsame.lt]; exact hi) ((hsame.holds).2 hh) _ (List.mem_singleton.2 rfl)
          simp only [G.den, BE.den] at h0
          cases h0
        | some gs =>
          rw [hg] at hv
          exact ⟨lf, gs, ρ', w', f', hsame.frz, hsame.ok hρ, hst, hlv, hfn, hH, hFr, (fun hN n _ h2 => hold n (Nat.lt_of_lt_of_le h2 (hN k C hk))), (hsame.holds).2 hh, hg, hv ρ' (known' ρ' hsame) (by rw [hsame.lt]; exact hi) ((hsame.holds).2 hh)⟩
      | cut j C' =>
        obtain ⟨hh, ρ', w', f', fs', hsame, hst, R', hbot, hFr, hold⟩ := hpk
        right
        simp only [viewP] at hv hvm
        cases hj : lk tm j with
        | none => rw [hj] at hv; exact absurd hv id
        | some Cj =>
          rw [hj] at hv hvm
          simp only [] at hv hvm
          cases hfit : fitWith T.orac.rom j Cj C' (subOf Cj C') with
          | done lf => unfold fitWith at hfit; (repeat' split at hfit) <;> cases hfit
          | bad a b c d => rw [hfit] at hv; exact absurd hv id
          | cut j' pc S X =>
            rw [hfit] at hv hvm
            have hX := codes_mem s2 _ _ _ _ hvm
            obtain ⟨hff, hjj, e2⟩ := fit_frames hfit
            subst hjj
            rw [hj] at hX
            have kn := known' ρ' hsame
            have hpc : Holds ρ' pc := by rw [e2]; exact R'.pc
            obtain ⟨v1, v2⟩ : inv j' (ρ'.sb S).lt ∧ ms j' (ρ'.sb S).lt < ms k ρ'.lt := hv ρ' kn (by rw [hsame.lt]; exact hi) hpc
            obtain ⟨_, _, o1, o3, o2⟩ := fit_ok hfit hX (hok j' Cj hj) kn.ok kn.rom R' (fun k1 kf k2 => hlean j' Cj hj _ ⟨k1, by rw [kf.z]; exact kn.F, (by intro r esz ks hr; rw [kf.z]; exact kn.rom r esz ks hr), rowsF k2, (by intro r esz ks hr; rw [kf.z]; exact kn.cap r esz ks hr)⟩ v1)
            rw [hsame.lt] at v2
            exact ⟨j', Cj, ρ'.sb S, w', f', fs', hj, v2, o1, by rw [o3.z, hsame.z]; exact hz, hsame.frz.trans o3, o2, v1, hst, (bot_fit _ _ _ _ hff).trans hbot, hFr.trans ⟨Nat.le_refl _, fun _ _ _ => rfl, fun n o hl => (by
              obtain ⟨eS, hfh, _⟩ := fit_heap hfit
              obtain ⟨a, ha, _⟩ := fitH_mem _ hfh n o (lkMem hl)
              exact .inl ⟨_, a, ha, by rw [eS]; rfl⟩)⟩, (fun hN n h1 h2 => (by
              obtain ⟨eS, _, hfx⟩ := fit_heap hfit
              show ρ'.a (nmA S.a n) = ρ.a n
              rw [eS, fixA_ok hfx n h1 h2]
              exact hold n (Nat.lt_of_lt_of_le h2 (hN k C hk))))⟩
  intro q
  induction q with
  | zero =>
    intro k C ρ w f fs cs hk hm hρ hz R hi
    rcases one k C ρ w f fs cs hk hρ hz R hi with h | ⟨j, C', ρ', w', f', fs', h1, h2, _⟩
    · exact h
    · omega
  | succ q ih =>
    intro k C ρ w f fs cs hk hm hρ hz R hi
    rcases one k C ρ w f fs cs hk hρ hz R hi with h | ⟨j, C', ρ', w', f', fs', h1, h2, h3, h4, h5, h6, h7, h8, h9, h10, h11⟩
    · exact h
    · obtain ⟨lf, gs, ρ2, w2, f2, g1, g2, g3, g4, g5, g6, g7, g8, g9⟩ := ih j C' ρ' w' f' fs' cs h1 (by omega) h3 h4 h6 h7
      exact ⟨lf, gs, ρ2, w2, f2, h5.trans g1, g2, Steps.trans h8 g3, g4, g5.trans h9, g6, h10.trans g7, (fun hN n q1 q2 => (g8 hN n q1 q2).trans (h11 hN n q1 q2)), g9⟩
theorem gI_ok {pc : List BE} {a b : IE} (hρ : ρ.Ok) (hp : Holds ρ pc) (h : ∀ g ∈ gI pc a b, g.den ρ) : a.den ρ = b.den ρ := by
 unfold gI at h
 split at h
 ·rename_i hb; rw [IE.beq_eq _ _ hb]
 ·split at h
  ·rename_i hd; exact dec_eq hρ hp hd
  ·exact h _ (List.mem_singleton.2 rfl)
theorem gB_ok {pc : List BE} {a b : BE} (hρ : ρ.Ok) (hp : Holds ρ pc) (h : ∀ g ∈ gB pc a b, g.den ρ) : a.den ρ = b.den ρ := by
 unfold gB at h
 split at h
 ·rename_i hb; rw [BE.beq_eq _ _ hb]
 ·split at h
  ·rename_i hd
   have := dec_den hρ hp _ _ hd
   rw [mkIff_den] at this
   exact of_decide_eq_true (by simpa using this)
  ·split at h
   ·rename_i h1 h2
    cases hb : b.den ρ with
    | true => exact dec_den hρ (hp.cons hb) _ _ h1
    | false => exact dec_den hρ (hp.cons (p := mkNot b) (by rw [mkNot_den, hb]; rfl)) _ _ h2
   ·exact h _ (List.mem_singleton.2 rfl)
theorem gL_ok {a b : LE} (h : ∀ g ∈ gL a b, g.den ρ) : a.den ρ = b.den ρ := by
 unfold gL at h
 split at h
 ·rename_i hb; rw [LE.beq_eq _ _ hb]
 ·exact h _ (List.mem_singleton.2 rfl)
theorem oG_some {a b : Option (List G)} {gs : List G} (h : oG a b = some gs) : ∃ x y, a = some x ∧ b = some y ∧ gs = x ++ y := by
 unfold oG at h
 split at h
 ·cases h; exact ⟨_, _, rfl, rfl, rfl⟩
 ·cases h
variable {ρ' : Rho} {roms : List (Nat × (Nat × List CK))} {pc : List BE} {S : Sub}
theorem gV_ok (hρ : ρ.Ok) (hp : Holds ρ pc) (hr : RTyped roms ρ) (hb : Base ρ ρ') {N : Nat} (ha : ∀ n, n < N → ρ'.a n = ρ.a (nmA S.a n)) {v u : SV} {gs : List G} (hf : v.flat = true) (hn : NamesV N v) (h : gV roms pc S v u = some gs) (hg : ∀ g ∈ gs, g.den ρ) : v.den ρ' = u.den ρ := by
 unfold gV at h
 split at h
 ·cases h
  simp only [SV.flat] at hf
  simp only [SV.den, BE.free_den hb _ hf, gB_ok hρ hp hg]
 ·split at h
  ·rename_i hk
   cases h
   simp only [SV.flat] at hf
   simp only [SV.den, IE.free_den hb _ hf, gI_ok hρ hp hg, (keq_iff _ _).1 hk]
  ·cases h
 ·split at h
  ·rename_i m hm
   cases h
   simp only [SV.flat] at hf
   rw [(asL_ok hρ hp hr hm).1]
   simp only [SV.den, LE.free_den hb _ hf, gL_ok hg]
  ·cases h
 ·rename_i n cn z len m dn y len'
  split at h
  ·rename_i h1
   split at h
   ·rename_i h2
    split at h
    ·rename_i h3
     cases h
     simp only [SV.flat] at hf
     have e1 : nmA S.a n = m := by simpa using h1
     have e2 : nmA S.a cn = dn := by simpa using h2
     have e3 : z = y := by simpa using h3
     simp only [SV.den, capDen, IE.free_den hb _ hf, gI_ok hρ hp hg, ha n (hn n (by simp [SV.names])), ha cn (hn cn (by simp [SV.names])), e1, e2, e3, IE.den]
    ·cases h
   ·cases h
  ·cases h
 ·rename_i n cn z len c m dn y len' c'
  split at h
  ·rename_i h1
   split at h
   ·rename_i h2
    split at h
    ·rename_i h3
     cases h
     simp only [SV.flat] at hf
     have e1 : nmA S.a n = m := by simpa using h1
     have e2 : nmA S.a cn = dn := by simpa using h2
     have e3 : z = y := by simpa using h3
     have g1 := gI_ok hρ hp (fun g hx => hg g (List.mem_append.2 (.inl hx)))
     have g2 := gI_ok hρ hp (fun g hx => hg g (List.mem_append.2 (.inr hx)))
     simp only [SV.den, capDen, IE.free_den hb _ (ifb hf).1, IE.free_den hb _ (ifb hf).2, g1, g2, ha n (hn n (by simp [SV.names])), ha cn (hn cn (by simp [SV.names])), e1, e2, e3, IE.den]
    ·cases h
   ·cases h
  ·cases h
 ·simp only [SV.den]
 ·cases h
theorem gVs_ok (hρ : ρ.Ok) (hp : Holds ρ pc) (hr : RTyped roms ρ) (hb : Base ρ ρ') {N : Nat} (ha : ∀ n, n < N → ρ'.a n = ρ.a (nmA S.a n)) : ∀ {v u : List SV} {gs : List G}, flatL v = true → (∀ m ∈ SV.namesL v, m < N) → gVs roms pc S v u = some gs → (∀ g ∈ gs, g.den ρ) → SV.denL ρ' v = SV.denL ρ u
 | [], [], gs, _, _, h, _ => rfl
 | [], _ :: _, gs, _, _, h, _ => by cases h
 | _ :: _, [], gs, _, _, h, _ => by cases h
 | v :: vs, u :: us, gs, hf, hn, h, hg => by
  simp only [gVs] at h
  obtain ⟨x, y, h1, h2, rfl⟩ := oG_some h
  rw [SV.denL, SV.denL, gV_ok hρ hp hr hb ha (ifb hf).1 (fun m hm => hn m (by simp [SV.namesL, hm])) h1 (fun g hx => hg g (List.mem_append.2 (.inl hx))), gVs_ok hρ hp hr hb ha (ifb hf).2 (fun m hm => hn m (by simp [SV.namesL, hm])) h2 (fun g hx => hg g (List.mem_append.2 (.inr hx)))]
theorem gV1_ok (hρ : ρ.Ok) (hp : Holds ρ pc) (hr : RTyped roms ρ) (hb : Base ρ ρ') {N : Nat} (ha : ∀ n, n < N → ρ'.a n = ρ.a (nmA S.a n)) {v u : SV} {gs : List G} (hf : v.flat1 = true) (hn : NamesV N v) (h : gV1 roms pc S v u = some gs) (hg : ∀ g ∈ gs, g.den ρ) : v.den ρ' = u.den ρ := by
 unfold gV1 at h
 split at h
 ·simp only [SV.flat1] at hf
  rw [SV.den, SV.den, gVs_ok hρ hp hr hb ha hf (fun m hm => hn m (by simpa [SV.names] using hm)) h hg]
 ·rename_i hno
  refine gV_ok hρ hp hr hb ha ?_ hn h hg
  unfold SV.flat1 at hf
  split at hf
  ·rename_i cs
   unfold gV at h
   cases u <;> cases h
  ·exact hf
theorem gV1s_ok (hρ : ρ.Ok) (hp : Holds ρ pc) (hr : RTyped roms ρ) (hb : Base ρ ρ') {N : Nat} (ha : ∀ n, n < N → ρ'.a n = ρ.a (nmA S.a n)) : ∀ {v u : List SV} {gs : List G}, flatL1 v = true → (∀ m ∈ SV.namesL v, m < N) → gV1s roms pc S v u = some gs → (∀ g ∈ gs, g.den ρ) → SV.denL ρ' v = SV.denL ρ u
 | [], [], gs, _, _, h, _ => rfl
 | [], _ :: _, gs, _, _, h, _ => by cases h
 | _ :: _, [], gs, _, _, h, _ => by cases h
 | v :: vs, u :: us, gs, hf, hn, h, hg => by
  simp only [gV1s] at h
  obtain ⟨x, y, h1, h2, rfl⟩ := oG_some h
  rw [SV.denL, SV.denL, gV1_ok hρ hp hr hb ha (ifb hf).1 (fun m hm => hn m (by simp [SV.namesL, hm])) h1 (fun g hx => hg g (List.mem_append.2 (.inl hx))), gV1s_ok hρ hp hr hb ha (ifb hf).2 (fun m hm => hn m (by simp [SV.namesL, hm])) h2 (fun g hx => hg g (List.mem_append.2 (.inr hx)))]
theorem gV2_ok (hρ : ρ.Ok) (hp : Holds ρ pc) (hr : RTyped roms ρ) (hb : Base ρ ρ') {N : Nat} (ha : ∀ n, n < N → ρ'.a n = ρ.a (nmA S.a n)) {v u : SV} {gs : List G} (hf : v.flat2 = true) (hn : NamesV N v) (h : gV2 roms pc S v u = some gs) (hg : ∀ g ∈ gs, g.den ρ) : v.den ρ' = u.den ρ := by
 unfold gV2 at h
 split at h
 ·split at h
  ·rename_i ht
   unfold gP at h
   split at h
   ·split at h
    ·rename_i ht2
     simp only [SV.flat2, SV.flatP] at hf
     rw [SV.den, SV.den, SV.den, SV.den, gV1_ok hρ hp hr hb ha hf (fun m hm => hn m (by simpa [SV.names] using hm)) h hg, Nat.eq_of_beq_eq_true ht, Nat.eq_of_beq_eq_true ht2]
    ·cases h
   ·cases h
  ·cases h
 ·simp only [SV.flat2] at hf
  rw [SV.den, SV.den, gV1s_ok hρ hp hr hb ha hf (fun m hm => hn m (by simpa [SV.names] using hm)) h hg]
 ·refine gV1_ok hρ hp hr hb ha ?_ hn h hg
  unfold SV.flat2 at hf
  split at hf
  ·unfold gV1 gV at h
   cases u <;> cases h
  ·unfold gV1 gV at h
   cases u <;> cases h
  ·exact hf
theorem samePan_ok {a b : SV} (h : samePan a b = true) : (panV a).isSome = (panV b).isSome := by
 unfold samePan at h
 split at h
 ·rename_i h1 h2; rw [h1, h2]
 ·rename_i h1 h2; rw [h1, h2]; rfl
 ·cases h
theorem gH_ok (hρ : ρ.Ok) (hp : Holds ρ pc) {h : SHeap} : ∀ {t : SHeap} {gs : List G}, gH pc S h t = some gs → (∀ g ∈ gs, g.den ρ) → ∀ n o, lk t n = some o → ∃ c tot ks ty cn sz c' tot', o = .rowl c tot ks ty cn sz ∧ lk h (nmA S.a n) = some (.rowl c' tot' ks ty (nmA S.a cn) sz) ∧ c.den ρ = c'.den ρ ∧ tot.den ρ = tot'.den ρ
 | [], gs, _, _, n, o, hl => by rw [lk_nil] at hl; cases hl
 | (m, p) :: t, gs, h1, hg, n, o, hl => by
  unfold gH at h1
  split at h1
  ·rename_i hq; cases hq
  ·rename_i m' c tot ks ty cn sz l hq
   cases hq
   split at h1
   ·rename_i c' tot' js u dn zs hlk
    split at h1
    ·rename_i q1
     split at h1
     ·rename_i q2
      split at h1
      ·rename_i q3
       split at h1
       ·rename_i q4
        obtain ⟨x, y, e1, e2, rfl⟩ := oG_some h1
        cases e1
        rw [lk_cons] at hl
        split at hl
        ·rename_i he
         subst he
         cases hl
         have p1 : ty = u := by simpa using q1
         have p2 : nmA S.a cn = dn := by simpa using q2
         have p3 : sz = zs := by simpa using q3
         have p4 := ksEq_eq _ _ q4
         subst p1; subst p2; subst p3; subst p4
         exact ⟨c, tot, ks, ty, cn, sz, c', tot', rfl, hlk, gL_ok (fun g hx => hg g (by simp [hx])), gI_ok hρ hp (fun g hx => hg g (by simp [hx]))⟩
        ·exact gH_ok hρ hp e2 (fun g hx => hg g (List.mem_append.2 (.inr hx))) n o hl
       ·cases h1
      ·cases h1
     ·cases h1
    ·cases h1
   ·cases h1
  ·cases h1
theorem ctr_of (hT : T.Ok P) (n : Nat) (c : Ctr) (tm : List (Nat × Cfg)) (inv : Nat → Lt → Prop) (ms : Nat → Lt → Nat) (vw : Nat → List VW) (k0 : Nat) {F : Func} {code : Code} (hF : T.fn.get c.f = some F) (hc : F.body = some code) {pc0 : List BE}
  (hrom : T.orac.rom = c.roms) (hflat : c.res.flat2 = true ∧ flatH c.heap = true ∧ freeL c.post = true ∧ freeL c.pre = true) (hnames : HNames c.cnt c.heap ∧ NamesV c.cnt c.res ∧ SV.namesL c.pat = [] ∧ ∀ p ∈ c.heap, p.1 < c.cnt)
  (hok : ∀ k C, lk tm k = some C → cfgOk C = true) (hseg : ∀ k C, lk tm k = some C → segL T.orac.rom c (seg T sel n tm C) = (true, codesR tm (views (seg T sel n tm C)), vw k)) (hvc : ∀ k C, lk tm k = some C → ∀ v ∈ vw k, VC T inv ms k C v)
  (hlean : ∀ k C, lk tm k = some C → ∀ ρ, Known T C ρ → inv k ρ.lt → Holds ρ (leanOf C.pc)) (h0 : lk tm k0 = some { top := frameOf c.f F code c.pat, rest := [], heap := [], next := 0, pc := pc0 }) (hpre : ∀ ρ : Rho, Gd T.orac.F ρ → Holds ρ c.pre → Holds ρ pc0) (hi : ∀ ρ : Rho, Gd T.orac.F ρ → RTyped c.roms ρ → Holds ρ c.pre → inv k0 ρ.lt)
  (hl : T.orac.l = []) (hct : ∀ d ∈ T.orac.ctr, CtrOk P T.orac.F d) (hmt : ∀ d ∈ T.orac.mem, MtrOk P T.orac.F d) : CtrOk P T.orac.F c := by
 refine ⟨hflat, hnames, ?_⟩
 intro ρ w gd hro hp
 have hnl : NamesL 0 c.pat := by rw [NamesL.iff, hnames.2.2.1]; simp
 have H0 : HeapR ρ w [] w := ⟨Grew.refl w, fun n o hh => by simp [lk_nil] at hh, fun n o hh => by simp [lk_nil] at hh, fun n m o p hh => by simp [lk_nil] at hh⟩
 have R : CfgR ρ w { top := frameOf c.f F code c.pat, rest := [], heap := [], next := 0, pc := pc0 } w (Frame.enter P c.f (SV.denL ρ c.pat).toArray .normal) [] :=
  ⟨(enter_R hT hF hc hnl).1, .nil, H0, fun n o hh => by simp [lk_nil] at hh, hpre ρ gd hp⟩
 have hO : ∀ σ : Rho, σ.Ok → σ.z = ρ.z → OracOk P w T.orac σ := by
  intro σ hσ hz
  have gσ : Gd T.orac.F σ := ⟨hσ, by rw [hz]; exact gd.F⟩
  refine ⟨(fun o ho => by rw [hl] at ho; cases ho), ?_, gσ.F, hct, hmt⟩
  show RomsOk T.orac.rom w σ
  rw [hrom]
  refine ⟨by rw [hz]; exact hro.1, ?_⟩
  intro r esz cl hr
  have := hro.2 r esz cl hr
  rw [hz]; exact this
 intro cs
 obtain ⟨lf, gs, ρ', w', f', hfz, hρ', hst, hlv, hfn, hH, _, _, hpc, hg, hgs⟩ := drive hT n (leafG T.orac.rom c) tm inv ms vw hok hseg hvc hlean ρ.z hO _ k0 _ ρ w _ [] cs h0 (Nat.le_refl _) gd.ok rfl R (hi ρ gd (by rw [← hrom]; exact (hO ρ gd.ok rfl).rom.typed) hp)
 unfold leafG at hg
 generalize colH 1000 lf.heap c.heap (colV 1000 c.res lf.val Sub.nil) = S at hg
 simp only [] at hg
 split at hg
 case isFalse => cases hg
 rename_i hsp
 split at hg
 ·rename_i hap
  obtain ⟨g1, g2, e1, e2, rfl⟩ := oG_some hg
  have hO' := hO ρ' hρ' hfz.z
  have hpT : Holds ρ' (.lit true :: lf.pc) := hpc.cons (p := .lit true) (by simp only [BE.den])
  obtain ⟨ρ2, hρ2⟩ : ∃ ρ2 : Rho, ρ2 = { ρ with a := fun n => if n < c.cnt then ρ'.a (nmA S.a n) else ρ.a n } := ⟨_, rfl⟩
  have ag : Agr ρ ρ2 0 c.cnt := by
   subst hρ2
   exact ⟨rfl, rfl, rfl, rfl, rfl, fun n hn => by
    have : ¬ n < c.cnt := by omega
    simp [this]⟩
  have hb : Base ρ' ρ2 := by
   subst hρ2
   exact ⟨fun k n hn => (hfz.i k n hn).symm, fun n hn => (hfz.b n hn).symm, fun n hn => (hfz.l n hn).symm, by show ρ.z.F = ρ'.z.F; rw [hfz.z], by show ρ.z.rl = ρ'.z.rl; rw [hfz.z]⟩
  have ha : ∀ n, n < c.cnt → ρ2.a n = ρ'.a (nmA S.a n) := by
   intro n hn
   subst hρ2
   simp [hn]
  have hval := gV2_ok hρ' hpT hO'.rom.typed hb ha hflat.1 hnames.2.1 e1 (fun g hx => hgs g (List.mem_append.2 (.inl hx)))
  have hheap := gH_ok (ρ := ρ') (S := S) hρ' hpT e2 (fun g hx => hgs g (List.mem_append.2 (.inr hx)))
  have hapr := (apartN_ok c.heap [] hap).2
  refine ⟨endS ρ' lf.val, w', f', ⟨ρ2, ag, (endS_den (samePan_ok hsp) hval).symm, ⟨hH.g0, ?_, ?_, ?_⟩⟩, comes_endS hst, hfn, hlv⟩
  ·intro n o hl
   obtain ⟨cc, tot, ks, ty, cn, sz, c', tot', rfl, h2, h3, h4⟩ := hheap n o hl
   have hn := hnames.1 n _ hl
   have hcn : cn < c.cnt := hn.2 cn (by simp [SObj.names])
   obtain ⟨obj, q1, q2⟩ := hH.at_ _ _ h2
   refine ⟨obj, by rw [ha n hn.1]; exact q1, ?_⟩
   obtain ⟨cc2, tot2, ks2, t2, cn2, sz2, e, f1, f2⟩ := flatH_row hflat.2.1 n _ hl
   cases e
   simp only [ObjR] at q2 ⊢
   rw [LE.free_den hb _ f1, IE.free_den hb _ f2, h3, h4, ha cn hcn]
   exact q2
  ·intro n o hl
   obtain ⟨cc, tot, ks, ty, cn, sz, c', tot', rfl, h2, _⟩ := hheap n o hl
   rw [ha n (hnames.1 n _ hl).1]
   exact hH.own _ _ h2
  ·intro n m o p hl hm he
   obtain ⟨_, _, _, _, _, _, _, _, rfl, h2, _⟩ := hheap n o hl
   obtain ⟨_, _, _, _, _, _, _, _, rfl, h3, _⟩ := hheap m p hm
   rw [ha n (hnames.1 n _ hl).1, ha m (hnames.1 m _ hm).1] at he
   exact hapr n m _ _ hl hm (hH.inj _ _ _ _ h2 h3 he)
 ·cases hg
def opqL (base : Nat) : Nat → List SV
 | 0 => []
 | n + 1 => .opq base :: opqL (base + 16) n
noncomputable def opqS (base n : Nat) : Slots := chunk n (opqL base n)
noncomputable def over (t : Slots) : List (Nat × SV) → Slots
 | [] => t
 | (i, v) :: l => over (put2 t i v) l
end
end Go.Proofs.Ythenenacmiiphaa.Sx
namespace Go.Proofs.Ythenenacmiiphaa.Sx
open Go
def capFr : Option IE → Bool
 | none => true
 | some e => e.free
mutual
def SV.fr : SV → Bool
 | .bool b => b.free
 | .int _ e => e.free
 | .lstr l => l.free
 | .ptr _ _ => true
 | .slice _ _ _ _ => true
 | .sl _ _ _ _ _ => true
 | .sll _ _ _ o l c => if o.free then (if l.free then capFr c else false) else false
 | .rom _ o l c => if o.free then (if l.free then capFr c else false) else false
 | .const _ => true
 | .opq n => Nat.blt n 1000
 | .func _ a c => if SV.frL a then SV.frL c else false
 | .iface _ v => v.fr
 | .agg l => SV.frL l
 | .tup l => SV.frL l
 | _ => false
def SV.frL : List SV → Bool
 | [] => true
 | v :: l => if v.fr then SV.frL l else false
end
def SObj.fr : SObj → Bool
 | .cells cs _ => SV.frL cs
 | .row cs _ _ _ => SV.frL cs
 | .rowl c tot _ _ _ _ => if c.free then tot.free else false
 | .mix p c _ _ q _ => if SV.frL p then (if c.free then SV.frL q else false) else false
 | _ => false
def frH : SHeap → Bool
 | [] => true
 | (_, o) :: h => if o.fr then frH h else false
section
variable {ρ ρ' : Rho} {roms : List (Nat × (Nat × List CK))} {pc : List BE} {S : Sub}
theorem capG_ok (hρ : ρ.Ok) (hp : Holds ρ pc) (hb : Base ρ ρ') {n : Nat} : ∀ {c d : Option IE} {gs : List G}, capFr c = true → capG pc c d = some gs → (∀ g ∈ gs, g.den ρ) → capDen ρ' n c = capDen ρ n d
 | none, none, gs, _, h, _ => rfl
 | none, some _, gs, _, h, _ => by cases h
 | some _, none, gs, _, h, _ => by cases h
 | some a, some b, gs, hf, h, hg => by
  simp only [capG, Option.some.injEq] at h
  subst h
  simp only [capDen]
  rw [IE.free_den hb _ hf, gI_ok hρ hp hg]
theorem oG3 {a b c : Option (List G)} {gs : List G} (h : oG a (oG b c) = some gs) (hg : ∀ g ∈ gs, g.den ρ) : ∃ x y z, a = some x ∧ b = some y ∧ c = some z ∧ (∀ g ∈ x, g.den ρ) ∧ (∀ g ∈ y, g.den ρ) ∧ ∀ g ∈ z, g.den ρ := by
 obtain ⟨x, y, h1, h2, rfl⟩ := oG_some h
 obtain ⟨y, z, h3, h4, rfl⟩ := oG_some h2
 exact ⟨x, y, z, h1, h3, h4, fun g hx => hg g (by simp [hx]), fun g hx => hg g (by simp [hx]), fun g hx => hg g (by simp [hx])⟩
mutual
theorem mV_ok (hρ : ρ.Ok) (hp : Holds ρ pc) (hr : RTyped roms ρ) (hb : Base ρ ρ') (hz : ρ'.z = ρ.z) (hv : ∀ n, n < 1000 → ρ'.v n = ρ.v n) : ∀ (v u : SV) {gs : List G}, v.fr = true → (∀ m ∈ v.names, ρ'.a m = ρ.a (nmA S.a m)) → mV roms pc S v u = some gs → (∀ g ∈ gs, g.den ρ) → v.den ρ' = u.den ρ
  | .bool a, u, gs, hf, ha, h, hg => by
    cases u <;> simp only [mV] at h <;> first
      | (cases h; done)
      | (cases h
         simp only [SV.fr] at hf
         simp only [SV.den, BE.free_den hb _ hf, gB_ok hρ hp hg])
  | .int k a, u, gs, hf, ha, h, hg => by
    cases u <;> simp only [mV] at h <;> first
      | (cases h; done)
      | (split at h
         · rename_i hk
           cases h
           simp only [SV.fr] at hf
           simp only [SV.den, IE.free_den hb _ hf, gI_ok hρ hp hg, (keq_iff _ _).1 hk]
         · cases h)
  | .lstr a, u, gs, hf, ha, h, hg => by
    simp only [mV] at h
    split at h
    · rename_i m hm
      cases h
      simp only [SV.fr] at hf
      rw [(asL_ok hρ hp hr hm).1]
      simp only [SV.den, LE.free_den hb _ hf, gL_ok hg]
    · cases h
  | .ptr n o, u, gs, hf, ha, h, hg => by
    cases u <;> simp only [mV] at h <;> first
      | (cases h; done)
      | (split at h
         · rename_i h1
           split at h
           · rename_i h2
             simp only [SV.den, ha n (by simp [SV.names]), Nat.eq_of_beq_eq_true h1, Nat.eq_of_beq_eq_true h2]
           · cases h
         · cases h)
  | .slice n o l c, u, gs, hf, ha, h, hg => by
    cases u <;> simp only [mV] at h <;> first
      | (cases h; done)
      | (split at h
         · rename_i h1
           split at h
           · rename_i h2
             split at h
             · rename_i h3
               split at h
               · rename_i h4
                 simp only [SV.den, ha n (by simp [SV.names]), Nat.eq_of_beq_eq_true h1, Nat.eq_of_beq_eq_true h2, Nat.eq_of_beq_eq_true h3, Nat.eq_of_beq_eq_true h4]
               · cases h
             · cases h
           · cases h
         · cases h)
  | .sl n cn z o l, u, gs, hf, ha, h, hg => by
    cases u <;> simp only [mV] at h <;> first
      | (cases h; done)
      | (split at h
         · rename_i h1
           split at h
           · rename_i h2
             split at h
             · rename_i h3
               split at h
               · rename_i h4
                 split at h
                 · rename_i h5
                   simp only [SV.den, ha n (by simp [SV.names]), ha cn (by simp [SV.names]), Nat.eq_of_beq_eq_true h1, Nat.eq_of_beq_eq_true h2, Nat.eq_of_beq_eq_true h3, Nat.eq_of_beq_eq_true h4, Nat.eq_of_beq_eq_true h5]
                 · cases h
               · cases h
             · cases h
           · cases h
         · cases h)
  | .sll n cn z o l c, u, gs, hf, ha, h, hg => by
    cases u <;> simp only [mV] at h <;> first
      | (cases h; done)
      | (split at h
         · rename_i h1
           split at h
           · rename_i h2
             split at h
             · rename_i h3
               obtain ⟨x, y, w, e1, e2, e3, g1, g2, g3⟩ := oG3 h hg
               cases e1; cases e2
               simp only [SV.fr] at hf
               obtain ⟨f1, f2⟩ := ifb hf
               obtain ⟨f3, f4⟩ := ifb f2
               have q1 := gI_ok hρ hp g1
               have q2 := gI_ok hρ hp g2
               simp only [SV.den, ha n (by simp [SV.names]), ha cn (by simp [SV.names]), Nat.eq_of_beq_eq_true h1, Nat.eq_of_beq_eq_true h2, Nat.eq_of_beq_eq_true h3, IE.free_den hb _ f1, IE.free_den hb _ f3, q1, q2, capG_ok hρ hp hb f4 e3 g3]
             · cases h
           · cases h
         · cases h)
  | .rom r o l c, u, gs, hf, ha, h, hg => by
    cases u <;> simp only [mV] at h <;> first
      | (cases h; done)
      | (split at h
         · rename_i h1
           obtain ⟨x, y, w, e1, e2, e3, g1, g2, g3⟩ := oG3 h hg
           cases e1; cases e2
           simp only [SV.fr] at hf
           obtain ⟨f1, f2⟩ := ifb hf
           obtain ⟨f3, f4⟩ := ifb f2
           have q1 := gI_ok hρ hp g1
           have q2 := gI_ok hρ hp g2
           simp only [SV.den, hz, Nat.eq_of_beq_eq_true h1, IE.free_den hb _ f1, IE.free_den hb _ f3, q1, q2, capG_ok hρ hp hb f4 e3 g3]
         · cases h)
  | .const a, u, gs, hf, ha, h, hg => by
    cases u <;> simp only [mV] at h <;> first
      | (cases h; done)
      | (split at h
         · rename_i h1
           have := SV.beq_eq _ _ h1
           rw [this]
           simp only [SV.den]
         · cases h)
  | .func fn a c, u, gs, hf, ha, h, hg => by
    cases u <;> simp only [mV] at h <;> first
      | (cases h; done)
      | (split at h
         · split at h
           · rename_i h1
             obtain ⟨x, y, e1, e2, rfl⟩ := oG_some h
             simp only [SV.fr] at hf
             obtain ⟨f1, f2⟩ := ifb hf
             have q1 := mVs_ok hρ hp hr hb hz hv a _ f1 (fun m hm => ha m (by simp [SV.names, hm])) e1 (fun g hx => hg g (by simp [hx]))
             have q2 := mVs_ok hρ hp hr hb hz hv c _ f2 (fun m hm => ha m (by simp [SV.names, hm])) e2 (fun g hx => hg g (by simp [hx]))
             simp only [SV.den, q1, q2, Nat.eq_of_beq_eq_true h1, fnDen]
           · cases h
         · cases h)
  | .iface t v, u, gs, hf, ha, h, hg => by
    cases u <;> simp only [mV] at h <;> first
      | (cases h; done)
      | (split at h
         · rename_i h1
           simp only [SV.fr] at hf
           simp only [SV.den, Nat.eq_of_beq_eq_true h1, mV_ok hρ hp hr hb hz hv v _ hf (fun m hm => ha m (by simpa [SV.names] using hm)) h hg]
         · cases h)
  | .agg l, u, gs, hf, ha, h, hg => by
    cases u <;> simp only [mV] at h <;> first
      | (cases h; done)
      | (simp only [SV.fr] at hf
         simp only [SV.den, mVs_ok hρ hp hr hb hz hv l _ hf (fun m hm => ha m (by simpa [SV.names] using hm)) h hg])
  | .tup l, u, gs, hf, ha, h, hg => by
    cases u <;> simp only [mV] at h <;> first
      | (cases h; done)
      | (simp only [SV.fr] at hf
         simp only [SV.den, mVs_ok hρ hp hr hb hz hv l _ hf (fun m hm => ha m (by simpa [SV.names] using hm)) h hg])
  | .opq n, u, gs, hf, ha, h, hg => by
    cases u <;> simp only [mV] at h <;> first
      | (cases h; done)
      | (split at h
         · rename_i h1
           simp only [SV.fr, Nat.blt_eq] at hf
           simp only [SV.den]
           rw [hv n hf, Nat.eq_of_beq_eq_true h1]
         · cases h)
  | .str bs, u, gs, hf, ha, h, hg => by simp [SV.fr] at hf
  | .rptr r i c, u, gs, hf, ha, h, hg => by simp [SV.fr] at hf
  | .lptr n sz i c, u, gs, hf, ha, h, hg => by simp [SV.fr] at hf
  | .sle n cn sz off l, u, gs, hf, ha, h, hg => by simp [SV.fr] at hf
  | .map n, u, gs, hf, ha, h, hg => by simp [SV.fr] at hf
  | .cel l i j, u, gs, hf, ha, h, hg => by simp [SV.fr] at hf
theorem mVs_ok (hρ : ρ.Ok) (hp : Holds ρ pc) (hr : RTyped roms ρ) (hb : Base ρ ρ') (hz : ρ'.z = ρ.z) (hv : ∀ n, n < 1000 → ρ'.v n = ρ.v n) : ∀ (v u : List SV) {gs : List G}, SV.frL v = true → (∀ m ∈ SV.namesL v, ρ'.a m = ρ.a (nmA S.a m)) → mVs roms pc S v u = some gs → (∀ g ∈ gs, g.den ρ) → SV.denL ρ' v = SV.denL ρ u
 | [], [], gs, _, _, _, _ => rfl
 | [], _ :: _, gs, _, _, h, _ => by simp [mVs] at h
 | _ :: _, [], gs, _, _, h, _ => by simp [mVs] at h
 | v :: l, u :: m, gs, hf, ha, h, hg => by
  simp only [mVs] at h
  obtain ⟨x, y, e1, e2, rfl⟩ := oG_some h
  simp only [SV.frL] at hf
  obtain ⟨f1, f2⟩ := ifb hf
  rw [SV.denL, SV.denL, mV_ok hρ hp hr hb hz hv v u f1 (fun k hk => ha k (by simp [SV.namesL, hk])) e1 (fun g hx => hg g (by simp [hx])), mVs_ok hρ hp hr hb hz hv l m f2 (fun k hk => ha k (by simp [SV.namesL, hk])) e2 (fun g hx => hg g (by simp [hx]))]
end
theorem mVs_len : ∀ (v u : List SV) {gs : List G}, mVs roms pc S v u = some gs → v.length = u.length
 | [], [], gs, _ => rfl
 | [], _ :: _, gs, h => by simp [mVs] at h
 | _ :: _, [], gs, h => by simp [mVs] at h
 | v :: l, u :: m, gs, h => by
  simp only [mVs] at h
  obtain ⟨x, y, e1, e2, rfl⟩ := oG_some h
  simp [mVs_len l m e2]
theorem mO_ok (hρ : ρ.Ok) (hp : Holds ρ pc) (hr : RTyped roms ρ) (hb : Base ρ ρ') (hz : ρ'.z = ρ.z) (hv : ∀ n, n < 1000 → ρ'.v n = ρ.v n) {o a : SObj} {gs : List G} {obj : Obj} (hf : o.fr = true) (ha : ∀ m ∈ o.names, ρ'.a m = ρ.a (nmA S.a m)) (h : mO roms pc S o a = some gs) (hg : ∀ g ∈ gs, g.den ρ) (hR : ObjR ρ a obj) : ObjR ρ' o obj := by
 unfold mO at h
 split at h
 ·rename_i l t m u
  split at h
  ·rename_i h1
   have e := mVs_ok hρ hp hr hb hz hv l m hf (fun k hk => ha k (by simpa [SObj.names] using hk)) h hg
   simp only [ObjR] at hR ⊢
   rw [e, Nat.eq_of_beq_eq_true h1]; exact hR
  ·cases h
 ·rename_i l t c z m u d y
  split at h
  ·rename_i h1
   split at h
   ·rename_i h2
    split at h
    ·rename_i h3
     have e := mVs_ok hρ hp hr hb hz hv l m hf (fun k hk => ha k (by simp [SObj.names, hk])) h hg
     have el := mVs_len l m h
     simp only [ObjR] at hR ⊢
     rw [e, Nat.eq_of_beq_eq_true h1, ha c (by simp [SObj.names]), Nat.eq_of_beq_eq_true h2, Nat.eq_of_beq_eq_true h3, el]; exact hR
    ·cases h
   ·cases h
  ·cases h
 ·rename_i c tot ks t cn sz c' tot' js u dn zs
  split at h
  ·rename_i h1
   split at h
   ·rename_i h2
    split at h
    ·rename_i h3
     split at h
     ·rename_i h4
      cases h
      have e1 : c.den ρ = c'.den ρ := gL_ok (fun g hx => hg g (List.mem_append.2 (.inl hx)))
      have e2 : tot.den ρ = tot'.den ρ := gI_ok hρ hp (fun g hx => hg g (List.mem_append.2 (.inr hx)))
      obtain ⟨f1, f2⟩ := ifb hf
      simp only [ObjR] at hR ⊢
      rw [LE.free_den hb _ f1, IE.free_den hb _ f2, e1, e2, Nat.eq_of_beq_eq_true h1, ha cn (by simp [SObj.names]), Nat.eq_of_beq_eq_true h2, Nat.eq_of_beq_eq_true h3, ksEq_eq _ _ h4]; exact hR
     ·cases h
    ·cases h
   ·cases h
  ·cases h
 ·rename_i p c n k q t p' c' n' k' q' t'
  split at h
  ·rename_i h1
   split at h
   ·rename_i h2
    split at h
    ·rename_i h3
     obtain ⟨x, y, w, e1, e2, e3, g1, g2, g3⟩ := oG3 h hg
     cases e2
     obtain ⟨f1, f2⟩ := ifb hf
     obtain ⟨f3, f4⟩ := ifb f2
     have q1 := mVs_ok hρ hp hr hb hz hv p p' f1 (fun k hk => ha k (by simp [SObj.names, hk])) e1 g1
     have q2 := mVs_ok hρ hp hr hb hz hv q q' f4 (fun k hk => ha k (by simp [SObj.names, hk])) e3 g3
     have q3 := gL_ok g2
     simp only [ObjR] at hR ⊢
     rw [q1, q2, LE.free_den hb _ f3, q3, Nat.eq_of_beq_eq_true h1, Nat.eq_of_beq_eq_true h2, (keq_iff _ _).1 h3]; exact hR
    ·cases h
   ·cases h
  ·cases h
 ·cases h
theorem mH_ok {h : SHeap} : ∀ {t : SHeap} {gs : List G}, mH roms pc S h t = some gs → (∀ g ∈ gs, g.den ρ) → ∀ n o, lk t n = some o → ∃ a gs', lk h (nmA S.a n) = some a ∧ mO roms pc S o a = some gs' ∧ ∀ g ∈ gs', g.den ρ
 | [], gs, _, _, n, o, hl => by rw [lk_nil] at hl; cases hl
 | (m, p) :: t, gs, h1, hg, n, o, hl => by
  unfold mH at h1
  split at h1
  ·rename_i a ha
   obtain ⟨x, y, e1, e2, rfl⟩ := oG_some h1
   rw [lk_cons] at hl
   split at hl
   ·rename_i he
    subst he
    cases hl
    exact ⟨a, x, ha, e1, fun g hx => hg g (by simp [hx])⟩
   ·exact mH_ok e2 (fun g hx => hg g (by simp [hx])) n o hl
  ·cases h1
theorem frH_ok : ∀ {t : SHeap}, frH t = true → ∀ n o, lk t n = some o → o.fr = true
 | [], _, n, o, hl => by rw [lk_nil] at hl; cases hl
 | (m, p) :: t, h, n, o, hl => by
  obtain ⟨h1, h2⟩ := ifb h
  rw [lk_cons] at hl
  split at hl
  ·cases hl; exact h1
  ·exact frH_ok h2 n o hl
end
noncomputable section
def highL : List Nat → Bool
 | [] => true
 | n :: l => if Nat.ble 1000000 n then highL l else false
def lowL (N : Nat) : List Nat → Bool
 | [] => true
 | n :: l => if Nat.blt n N then lowL N l else false
def keysM : SHeap → List Nat
 | [] => []
 | (n, _) :: l => n :: keysM l
def subH (hp : SHeap) (c : Nat) : SHeap → Bool
 | [] => true
 | (n, _) :: l => if (if Nat.blt n c then (match lk hp n with
  | some _ => true
  | none => false) else true) then subH hp c l else false
def mtrFlat (c : Mtr) : Bool := if topOk c.res then (if Nat.beq c.cnt0 1001000 then (if Nat.ble c.cnt0 c.cnt then (if plainH c.hp then (if plainH c.hq then (if c.res.fr then (if frH c.hq then (if freeL c.post then freeL c.pre else false) else false) else false) else false) else false) else false) else false) else false
def mtrNames (c : Mtr) : Bool := if highL (namesM c) then (if lowL c.cnt (namesM c) then (if subH c.hp c.cnt0 c.hq then (if lowL c.cnt0 (heapNs c.hp) then lowL c.cnt0 (SV.namesL c.pat) else false) else false) else false) else false
end
theorem highL_ok : ∀ {l : List Nat}, highL l = true → ∀ n ∈ l, 1000000 ≤ n
 | [], _, n, hn => by cases hn
 | m :: l, h, n, hn => by
  obtain ⟨h1, h2⟩ := ifb h
  rcases List.mem_cons.1 hn with rfl | hn
  ·exact Nat.le_of_ble_eq_true h1
  ·exact highL_ok h2 n hn
theorem lowL_ok {N : Nat} : ∀ {l : List Nat}, lowL N l = true → ∀ n ∈ l, n < N
 | [], _, n, hn => by cases hn
 | m :: l, h, n, hn => by
  obtain ⟨h1, h2⟩ := ifb h
  rcases List.mem_cons.1 hn with rfl | hn
  ·simpa [Nat.blt_eq] using h1
  ·exact lowL_ok h2 n hn
theorem subH_ok {hp : SHeap} {c : Nat} : ∀ {t : SHeap}, subH hp c t = true → ∀ n o, lk t n = some o → n < c → ∃ p, lk hp n = some p
 | [], _, n, o, hl, _ => by rw [lk_nil] at hl; cases hl
 | (m, p) :: t, h, n, o, hl, hn => by
  obtain ⟨h1, h2⟩ := ifb h
  rw [lk_cons] at hl
  split at hl
  ·rename_i e; subst e
   rw [if_pos (by simpa [Nat.blt_eq] using hn)] at h1
   split at h1
   ·rename_i q hq; exact ⟨q, hq⟩
   ·cases h1
  ·exact subH_ok h2 n o hl hn
section
variable {P : Program} {T : Tab} {b0 : World} {sel : Sel} {ρ : Rho}
theorem mtr_of (hT : T.Ok P) (n : Nat) (c : Mtr) (tm : List (Nat × Cfg)) (inv : Nat → Lt → Prop) (ms : Nat → Lt → Nat) (vw : Nat → List VW) (k0 : Nat) {F : Func} {code : Code} (hF : T.fn.get c.f = some F) (hc : F.body = some code) {pc0 : List BE}
    (hrom : T.orac.rom = c.roms) (hflat : mtrFlat c = true) (hnames : mtrNames c = true) (hN : ∀ k C, lk tm k = some C → 1001000 ≤ C.next)
    (hok : ∀ k C, lk tm k = some C → cfgOk C = true) (hseg : ∀ k C, lk tm k = some C → segM T.orac.rom c (seg T sel n tm C) = (true, codesR tm (views (seg T sel n tm C)), vw k)) (hvc : ∀ k C, lk tm k = some C → ∀ v ∈ vw k, VC T inv ms k C v)
    (hlean : ∀ k C, lk tm k = some C → ∀ ρ, Known T C ρ → inv k ρ.lt → Holds ρ (leanOf C.pc)) (h0 : lk tm k0 = some { top := frameOf c.f F code c.pat, rest := [], heap := c.hp, next := c.cnt0, pc := pc0 }) (hpre : ∀ ρ : Rho, Gd T.orac.F ρ → Holds ρ c.pre → Holds ρ pc0) (hi : ∀ ρ : Rho, Gd T.orac.F ρ → RTyped c.roms ρ → RowsF c.hp ρ → Holds ρ c.pre → inv k0 ρ.lt)
    (hl : T.orac.l = []) (hct : ∀ d ∈ T.orac.ctr, CtrOk P T.orac.F d) (hmt : ∀ d ∈ T.orac.mem, MtrOk P T.orac.F d) : MtrOk P T.orac.F c := by
  obtain ⟨ftop, hflat⟩ := ifb hflat
  obtain ⟨f0, hflat⟩ := ifb hflat
  obtain ⟨f1, hflat⟩ := ifb hflat
  obtain ⟨f2, hflat⟩ := ifb hflat
  obtain ⟨f3, hflat⟩ := ifb hflat
  obtain ⟨f4, hflat⟩ := ifb hflat
  obtain ⟨f5, hflat⟩ := ifb hflat
  obtain ⟨f6, f7⟩ := ifb hflat
  obtain ⟨n1, hnames⟩ := ifb hnames
  obtain ⟨n2, hnames⟩ := ifb hnames
  obtain ⟨n3, hnames⟩ := ifb hnames
  obtain ⟨n4, n5⟩ := ifb hnames
  have hc0 : c.cnt0 = 1001000 := Nat.eq_of_beq_eq_true f0
  have hcc : c.cnt0 ≤ c.cnt := Nat.le_of_ble_eq_true f1
  have hhi := highL_ok n1
  have hlo := lowL_ok n2
  have hpl := lowL_ok n4
  have hpt := lowL_ok n5
  have mres : ∀ n ∈ c.res.names, n ∈ namesM c := fun n hm => List.mem_append.2 (.inl hm)
  have mkey : ∀ n o, lk c.hq n = some o → n ∈ namesM c ∧ ∀ m ∈ o.names, m ∈ namesM c := fun n o hl => ⟨List.mem_append.2 (.inr (heapNs_mem hl).1), fun m hm => List.mem_append.2 (.inr ((heapNs_mem hl).2 m hm))⟩
  have hin : ∀ p ∈ c.hq, p.1 ∈ heapNs c.hq := by
    intro p hp
    have : ∀ (l : SHeap), p ∈ l → p.1 ∈ heapNs l := by
      intro l
      induction l with
      | nil => intro h; cases h
      | cons x l ih =>
        intro h
        obtain ⟨k, q⟩ := x
        unfold heapNs
        rcases List.mem_cons.1 h with rfl | h
        · exact List.mem_cons_self ..
        · exact List.mem_cons_of_mem _ (List.mem_append.2 (.inr (ih h)))
    exact this _ hp
  refine ⟨⟨f2, f3⟩, ftop, ⟨fun n o hl => ⟨hlo n (mkey n o hl).1, fun m hm => hlo m ((mkey n o hl).2 m hm)⟩, fun m hm => hlo m (mres m hm), fun p hp => hlo _ (List.mem_append.2 (.inr (hin p hp))), hcc, subH_ok n3, fun n o hl => hpl n (heapNs_mem hl).1⟩, ?_⟩
  intro ρ b0 w gd hro H0 hp
  have hnl : NamesL c.cnt0 c.pat := by rw [NamesL.iff]; exact hpt
  have hHn : HNames c.cnt0 c.hp := fun n o hl => ⟨hpl n (heapNs_mem hl).1, fun m hm => hpl m ((heapNs_mem hl).2 m hm)⟩
  have R : CfgR ρ b0 { top := frameOf c.f F code c.pat, rest := [], heap := c.hp, next := c.cnt0, pc := pc0 } w (Frame.enter P c.f (SV.denL ρ c.pat).toArray .normal) [] :=
    ⟨(enter_R hT hF hc hnl).1, .nil, H0, hHn, hpre ρ gd hp⟩
  have hO : ∀ σ : Rho, σ.Ok → σ.z = ρ.z → OracOk P b0 T.orac σ := by
    intro σ hσ hz
    have gσ : Gd T.orac.F σ := ⟨hσ, by rw [hz]; exact gd.F⟩
    refine ⟨(fun o ho => by rw [hl] at ho; cases ho), ?_, gσ.F, hct, hmt⟩
    show RomsOk T.orac.rom b0 σ
    rw [hrom]
    refine ⟨by rw [hz]; exact hro.1, ?_⟩
    intro r esz cl hr
    have := hro.2 r esz cl hr
    rw [hz]; exact this
  intro cs
  obtain ⟨lf, gs, ρ', w', f', hfz, hρ', hst, hlv, hfn, hH, hFr, hfix, hpc, hg, hgs⟩ := drive hT n (leafM T.orac.rom c) tm inv ms vw hok hseg hvc hlean ρ.z hO _ k0 _ ρ w _ [] cs h0 (Nat.le_refl _) gd.ok rfl R (hi ρ gd (by rw [← hrom]; exact (hO ρ gd.ok rfl).rom.typed) (rowsF H0) hp)
  unfold leafM at hg
  generalize colH 1000 lf.heap c.hq (colV 1000 c.res lf.val { Sub.nil with a := idsA (namesM c) }) = S at hg
  simp only [] at hg
  split at hg
  case isFalse => cases hg
  rename_i hsp
  split at hg
  · rename_i hap
    split at hg
    · rename_i hfx
      obtain ⟨g1, g2, e1, e2, rfl⟩ := oG_some hg
      have hO' := hO ρ' hρ' hfz.z
      have hpT : Holds ρ' (.lit true :: lf.pc) := hpc.cons (p := .lit true) (by simp only [BE.den])
      obtain ⟨ρ2, hρ2⟩ : ∃ ρ2 : Rho, ρ2 = { ρ with a := fun n => if c.cnt0 ≤ n ∧ n < c.cnt then ρ'.a (nmA S.a n) else ρ.a n } := ⟨_, rfl⟩
      have ag : Agr ρ ρ2 c.cnt0 c.cnt := by
        subst hρ2
        exact ⟨rfl, rfl, rfl, rfl, rfl, fun n hn => by
          have : ¬ (c.cnt0 ≤ n ∧ n < c.cnt) := by omega
          simp [this]⟩
      have hb : Base ρ' ρ2 := by
        subst hρ2
        exact ⟨fun k n hn => (hfz.i k n hn).symm, fun n hn => (hfz.b n hn).symm, fun n hn => (hfz.l n hn).symm, by show ρ.z.F = ρ'.z.F; rw [hfz.z], by show ρ.z.rl = ρ'.z.rl; rw [hfz.z]⟩
      have hz2 : ρ2.z = ρ'.z := by rw [hfz.z, hρ2]
      have hv2 : ∀ n, n < 1000 → ρ2.v n = ρ'.v n := fun n hn => by rw [hfz.v n hn, hρ2]
      have ha : ∀ n ∈ namesM c, ρ2.a n = ρ'.a (nmA S.a n) := by
        intro n hn
        have h1 := hhi n hn
        have h2 := hlo n hn
        subst hρ2
        by_cases q : c.cnt0 ≤ n
        · simp [q, h2]
        · have h3 : n < 1001000 := by omega
          simp only [q, false_and, if_false]
          rw [fixA_ok hfx n h1 h3]
          exact (hfix hN n h1 h3).symm
      have hval := mV_ok (S := S) hρ' hpT hO'.rom.typed hb hz2 hv2 c.res lf.val f4 (fun m hm => ha m (mres m hm)) e1 (fun g hx => hgs g (List.mem_append.2 (.inl hx)))
      have hheap := mH_ok (ρ := ρ') (S := S) e2 (fun g hx => hgs g (List.mem_append.2 (.inr hx)))
      have hapr := (apartN_ok c.hq [] hap).2
      refine ⟨endS ρ' lf.val, w', f', ⟨ρ2, ag, (endS_den (samePan_ok hsp) hval).symm, ⟨hH.g0, ?_, ?_, ?_⟩, ⟨hFr.size, hFr.same, ?_⟩⟩, comes_endS hst, hfn, hlv⟩
      · intro n o hl
        obtain ⟨a, gs', h2, h3, h4⟩ := hheap n o hl
        obtain ⟨obj, q1, q2⟩ := hH.at_ _ _ h2
        exact ⟨obj, by rw [ha n (mkey n o hl).1]; exact q1, mO_ok hρ' hpT hO'.rom.typed hb hz2 hv2 (frH_ok f5 n o hl) (fun m hm => ha m ((mkey n o hl).2 m hm)) h3 h4 q2⟩
      · intro n o hl
        obtain ⟨a, gs', h2, _⟩ := hheap n o hl
        rw [ha n (mkey n o hl).1]
        exact hH.own _ _ h2
      · intro n m o p hl hm he
        obtain ⟨a, _, h2, _⟩ := hheap n o hl
        obtain ⟨b, _, h3, _⟩ := hheap m p hm
        rw [ha n (mkey n o hl).1, ha m (mkey m p hm).1] at he
        exact hapr n m _ _ hl hm (hH.inj _ _ _ _ h2 h3 he)
      · intro n o hl
        obtain ⟨a, _, h2, _⟩ := hheap n o hl
        rw [ha n (mkey n o hl).1]
        exact hFr.dom _ a h2
    · cases hg
  · cases hg
end
end Go.Proofs.Ythenenacmiiphaa.Sx
