/- A reckoner of Go's small steps over letters: the steps of a machine. No condition. -/
import Derived.Test.YtjgkaimgocnkmabSp15
set_option linter.unusedVariables false
set_option linter.unusedSimpArgs false
set_option linter.deprecated false
namespace Go.Proofs.Ytjgkaimgocnkmab.Sx
open Go
section
variable {P : Program} {T : Tab} {b0 : World} {sub : Cfg → Out} {ρ : Rho} {w : World} {f : Frame} {fs : List Frame} {C : Cfg}
/-- The machine comes to what another configuration says. -/
def NextOk (P : Program) (b0 : World) (ρ : Rho) (C : Cfg) (w : World) (f : Frame) (fs cs : List Frame) (C' : Cfg) : Prop :=
  ∃ ρ' w' f' fs', CfgR ρ' b0 C' w' f' fs' ∧ Move ρ ρ' b0 C.heap C'.heap C.next C'.next w w' ∧ Steps P (lone f (fs ++ cs) w) (lone f' (fs' ++ cs) w') ∧ bot C'.top C'.rest = bot C.top C.rest
def ResOk (P : Program) (F : Fns) (b0 : World) (ρ : Rho) (C : Cfg) (w : World) (f : Frame) (fs cs : List Frame) : Res → Prop
  | .next C' => C'.pc = C.pc ∧ NextOk P b0 ρ C w f fs cs C'
  | .many l => PcOk F Cfg.pc C.pc l ∧ ∃ C' ∈ l, NextOk P b0 ρ C w f fs cs C'
  | .done v => C.rest = [] ∧ f.leaving P w (.returned (v.den ρ)) ∧ f.fn = C.top.fn ∧ NamesV C.next v
  | .split _ => True
  | .fail _ => True
theorem bot_top {a b : SFrame} (h : a.fn = b.fn) : ∀ l, bot a l = bot b l
  | [] => h
  | _ :: _ => rfl
theorem frame_run {N : Nat} {s : SFrame} (h : FrameR ρ N s f) (hr : s.ret = false) : f = fr s.fn f.tmps (s.todo.map (SItem.den ρ)) (defsOf ρ s.defers) (s.round.map ρ.a) := by
  have := h.eq
  rw [hr] at this
  simpa using this
/-- Another todo, in the same memory. -/
theorem todo_ok (R : CfgR ρ b0 C w f fs) (hr : C.top.ret = false) {i : SItem} {k0 k : List SItem} (ht : C.top.todo = i :: k0) (cs : List Frame)
    (hst : ∀ cs, step P (lone (fr C.top.fn f.tmps (i.den ρ :: k0.map (SItem.den ρ)) (defsOf ρ C.top.defers) (C.top.round.map ρ.a)) cs w) = .next (lone (fr C.top.fn f.tmps (k.map (SItem.den ρ)) (defsOf ρ C.top.defers) (C.top.round.map ρ.a)) cs w))
    (hk : ∀ j ∈ k, j.okI C.next) : ResOk P T.orac.F b0 ρ C w f fs cs (todo C k) := by
  have hf := frame_run R.top hr
  rw [ht] at hf
  refine ⟨rfl, ρ, w, fr C.top.fn f.tmps (k.map (SItem.den ρ)) (defsOf ρ C.top.defers) (C.top.round.map ρ.a), fs, ⟨⟨?_, R.top.slots, R.top.names, hk, R.top.defs, R.top.rnd, ?_⟩, R.rest, R.heap, R.names, R.pc⟩, Move.rfl' R.heap R.names, ?_, (bot_top (b := C.top) (by rfl) C.rest)⟩
  · simp [hr]
  · intro h; exact R.top.rr h
  · rw [hf]; exact .one (hst _)
theorem exitS_den (id : Nat) : ∀ k : List SItem, exitTo id (k.map (SItem.den ρ)) = (exitS id k).map (List.map (SItem.den ρ))
  | [] => rfl
  | i :: k => by
    cases i <;> simp only [List.map_cons, SItem.den, exitTo, exitS, exitS_den id k]
    rename_i i
    by_cases h : i = id
    · subst h; simp
    · have h1 : (id == i) = false := by simp; exact fun e => h e.symm
      have h2 : Nat.beq i id = false := by cases hb : Nat.beq i id <;> simp_all
      simp [h2]
      intro e
      first | exact absurd e h | exact absurd e.symm h
theorem gotoS_den (l : Nat) : ∀ k : List SItem, gotoIn l (k.map (SItem.den ρ)) = (gotoS l k).map (List.map (SItem.den ρ))
  | [] => rfl
  | i :: k => by
    cases i <;> simp only [List.map_cons, SItem.den, gotoIn, gotoS, gotoS_den l k]
    rename_i b
    cases findLabel b l <;> simp [SItem.den]
theorem exitS_ok {N : Nat} (id : Nat) : ∀ (k k' : List SItem), exitS id k = some k' → (∀ j ∈ k, j.okI N) → ∀ j ∈ k', j.okI N
  | [], k', h => by simp [exitS] at h
  | i :: k, k', h => by
    intro hk
    have hk2 : ∀ j ∈ k, j.okI N := fun j hj => hk j (List.mem_cons_of_mem _ hj)
    cases i <;> simp only [exitS] at h <;> try exact exitS_ok id k k' h hk2
    split at h
    · cases h; exact hk2
    · exact exitS_ok id k k' h hk2
theorem findLabel_ok (l : Nat) : ∀ (c rest : Code), findLabel c l = some rest → codeOk c = true → codeOk rest = true
  | .seq a b, rest, h, hc => by
    simp only [codeOk] at hc
    split at hc
    · rename_i ha
      simp only [findLabel] at h
      split at h
      · rename_i r hr
        cases h
        simp only [codeOk, findLabel_ok l a r hr ha, if_true, hc]
      · exact findLabel_ok l b rest h hc
    · cases hc
  | .label l', rest, h, hc => by
    simp only [findLabel] at h
    split at h
    · cases h; rfl
    · cases h
  | .skip, _, h, _ | .region .., _, h, _ | .cond .., _, h, _ | .block .., _, h, _ | .loop _, _, h, _ | .rangeFunc .., _, h, _ | .exit _, _, h, _ | .scope _, _, h, _ | .goto _, _, h, _ | .ret, _, h, _ | .refuse _, _, h, _ => by simp [findLabel] at h
theorem gotoS_ok {N : Nat} (l : Nat) : ∀ (k k' : List SItem), gotoS l k = some k' → (∀ j ∈ k, j.okI N) → ∀ j ∈ k', j.okI N
  | [], k', h => by simp [gotoS] at h
  | i :: k, k', h => by
    intro hk
    have hk2 : ∀ j ∈ k, j.okI N := fun j hj => hk j (List.mem_cons_of_mem _ hj)
    cases i <;> simp only [gotoS] at h <;> try exact gotoS_ok l k k' h hk2
    rename_i b
    have hb : codeOk b = true := hk (.inScope b) (List.mem_cons_self ..)
    split at h
    · rename_i rest hr
      cases h
      intro j hj
      rcases List.mem_cons.1 hj with rfl | hj
      · exact findLabel_ok l b rest hr hb
      · rcases List.mem_cons.1 hj with rfl | hj
        · exact hb
        · exact hk2 j hj
    · exact gotoS_ok l k k' h hk2
/-- A value goes into the frame that asked for it. -/
theorem finish_R {N : Nat} {s s' : SFrame} {v : SV} (h : FrameR ρ N s f) (hs : finishS s v = some s') (hv : NamesV N v) : FrameR ρ N s' (f.finish (v.den ρ)) ∧ s'.fn = s.fn := by
  unfold finishS at hs
  split at hs
  · rename_i ops i rest k ht
    split at hs
    · rename_i o ho
      cases hs
      rw [nth_eq, Array.getElem?_toList] at ho
      have he := h.eq
      rw [ht] at he
      have hfin : f.finish (v.den ρ) = { fr s.fn (putA f.tmps o.dst (v.den ρ)) (.inRegion ops rest :: k.map (SItem.den ρ)) (defsOf ρ s.defers) (s.round.map ρ.a) with mode := if s.ret then .returning else .run } := by
        rw [he]
        cases hd : o.dst <;> simp [Frame.finish, SItem.den, ho, hd, putA]
      refine ⟨⟨?_, ?_, ?_, ?_, h.defs, h.rnd, h.rr⟩, rfl⟩
      · rw [hfin]; simp [SItem.den]
      · rw [hfin]
        simp only []
        have := SlotsR.putD (a := ⟨f.tmps, []⟩) h.slots o.dst v
        cases hd : o.dst <;> simp only [hd, putA, Act.put, putD] at this ⊢ <;> exact this
      · exact h.names.putD _ hv
      · intro j hj
        have := h.items
        rw [ht] at this
        rcases List.mem_cons.1 hj with rfl | hj
        · exact this (.inRegion ops (i :: rest)) (List.mem_cons_self ..)
        · exact this j (List.mem_cons_of_mem _ hj)
    · cases hs
  · rename_i l k ht
    cases hs
    have he := h.eq
    rw [ht] at he
    have hfin : f.finish (v.den ρ) = { fr s.fn f.tmps (.endRangeFunc (ρ.a l) :: k.map (SItem.den ρ)) (defsOf ρ s.defers) (s.round.map ρ.a) with mode := if s.ret then .returning else .run } := by
      rw [he]; simp [Frame.finish, SItem.den]
    refine ⟨⟨?_, ?_, h.names, ?_, h.defs, h.rnd, h.rr⟩, rfl⟩
    · rw [hfin]; simp [SItem.den]
    · rw [hfin]; exact h.slots
    · intro j hj
      have := h.items
      rw [ht] at this
      rcases List.mem_cons.1 hj with rfl | hj
      · exact this (.inRange l) (List.mem_cons_self ..)
      · exact this j (List.mem_cons_of_mem _ hj)
  · cases hs
/-- A call is over. -/
theorem giveBack_ok (R : CfgR ρ b0 C w f fs) {h' : SHeap} {v : SV} {w' : World} (hm : Move ρ ρ b0 C.heap h' C.next C.next w w') (hv : NamesV C.next v) (cs : List Frame)
    (hdone : C.rest = [] → f.leaving P w (.returned (v.den ρ)) ∧ f.fn = C.top.fn) (hst : ∀ c cs, step P (lone f (c :: cs) w) = .next (lone (c.finish (v.den ρ)) cs w')) :
    ResOk P T.orac.F b0 ρ C w f fs cs (giveBack C h' v) := by
  unfold giveBack
  split
  · rename_i hr
    obtain ⟨h1, h2⟩ := hdone hr
    exact ⟨hr, h1, h2, hv⟩
  · rename_i s ss hr
    have hrest := R.rest
    rw [hr] at hrest
    cases hrest with
    | cons hs hss =>
      rename_i c fs'
      split
      · rename_i s' hs'
        obtain ⟨h1, h2⟩ := finish_R hs hs' hv
        refine ⟨rfl, ρ, w', c.finish (v.den ρ), fs', ⟨h1, hss, hm.heap, hm.names, R.pc⟩, hm, .one (hst c _), ?_⟩
        show bot s' ss = bot C.top C.rest
        rw [hr]
        exact bot_top h2 ss
      · trivial
def rd (tm : Array Value) : ResultVar → Sem Value
  | .tmp t => pure (tm.getD t undef)
  | .cell a t => do loadVar t (← asAddr (tm.getD a undef))
theorem resultS_ok (hT : T.Ok P) (H : HeapR ρ b0 C.heap w) (hn : HNames C.next C.heap) {sl : Slots} {tm : Array Value} (hsl : SlotsR ρ sl tm) (hsn : SNames C.next sl) : ∀ (l : List ResultVar) (vs : List SV), resultS T C.heap sl l = some vs →
    (l.mapM (rd tm)).run P w = .ok (SV.denL ρ vs) w ∧ NamesL C.next vs := by
  have hev : ∀ t, tm.getD t undef = ((get2 sl t).getD (.tup [])).den ρ := fun t => ev_den (a := ⟨tm, []⟩) hsl (.tmp t)
  have hevn : ∀ t, NamesV C.next ((get2 sl t).getD (.tup [])) := fun t => ev_names hsn (.tmp t)
  intro l
  induction l with
  | nil => intro vs h; simp [resultS] at h; subst h; exact ⟨by simp [SV.denL], by intro v hv; cases hv⟩
  | cons x l ih =>
    intro vs h
    cases x with
    | tmp t =>
      simp only [resultS] at h
      split at h
      · rename_i vs' h1
        cases h
        obtain ⟨h2, h3⟩ := ih _ h1
        refine ⟨?_, ?_⟩
        · have h0 : (rd tm (.tmp t)).run P w = .ok (((get2 sl t).getD (.tup [])).den ρ) w := by rw [← hev t]; rfl
          rw [List.mapM_cons, Sem.run_bind, h0, Result.andThen_ok, Sem.run_bind, h2, Result.andThen_ok]; rfl
        · intro v hv
          rcases List.mem_cons.1 hv with rfl | hv
          · exact hevn t
          · exact h3 v hv
      · cases h
    | cell a t =>
      simp only [resultS] at h
      split at h
      · rename_i n off vs' h0 h1
        split at h
        · rename_i v h' nx' hl
          cases h
          obtain ⟨h2, h3⟩ := ih _ h1
          obtain ⟨r1, _, _, ob, r2, r3⟩ := load_run hT H t n off v h' nx' hl
          refine ⟨?_, ?_⟩
          · have h00 : (rd tm (.cell a t)).run P w = .ok (v.den ρ) w := by
              simp only [rd, hev a, h0, SV.den, asAddr, Sem.run_bind, Sem.run_pure, Result.andThen_ok, r1]
            rw [List.mapM_cons, Sem.run_bind, h00, Result.andThen_ok, Sem.run_bind, h2, Result.andThen_ok]; rfl
          · intro v' hv
            rcases List.mem_cons.1 hv with rfl | hv
            · exact fun m hm => (hn n _ r2).2 m (r3 m hm)
            · exact h3 v' hv
        · cases h
      · cases h
theorem results_rd (F : Func) (tm : Array Value) : results F tm = ((F.results.mapM (rd tm) : Sem (Array Value)) >>= fun vs => (pure (if h : vs.size = 1 then vs[0] else .tuple vs) : Sem Value)) := by
  unfold results
  congr 1
theorem results_ok {F : Func} {tm : Array Value} {vs : List SV} (h : (F.results.toList.mapM (rd tm)).run P w = .ok (SV.denL ρ vs) w) :
    (results F tm).run P w = .ok ((oneOf vs).den ρ) w := by
  rw [results_rd, Array.mapM_eq_mapM_toList, Sem.run_bind, Sem.run_map, h]
  simp only [Result.andThen_ok, Sem.run_pure]
  congr 1
  match vs with
  | [] => simp [oneOf, SV.den, SV.denL]
  | [v] => simp [oneOf, SV.den, SV.denL]
  | a :: b :: l => simp [oneOf, SV.den, SV.denL]
theorem retStep_ok (hT : T.Ok P) (R : CfgR ρ b0 C w f fs) (hr : C.top.ret = true) (cs : List Frame) : ResOk P T.orac.F b0 ρ C w f fs cs (retStep T C) := by
  have hf := R.top.eq
  have hround := R.top.rr hr
  rw [hr, hround] at hf
  simp only [if_true, Option.map_none] at hf
  unfold retStep
  split
  · rename_i n ds hd
    split
    · rename_i hl
      obtain ⟨obj, ho, hR⟩ := R.heap.at_ n _ hl
      simp only [ObjR, if_true] at hR
      subst hR
      have hm := Move.upd R.heap R.names hl (.defd false) (.deferred none) (by simp [ObjR]) (by simp [SObj.names])
      rw [hd] at hf
      refine ⟨rfl, ρ, _, { fr C.top.fn f.tmps (C.top.todo.map (SItem.den ρ)) (defsOf ρ ds) none with mode := .returning }, fs, ⟨⟨?_, R.top.slots, R.top.names, R.top.items, ?_, R.top.rnd, fun _ => hround⟩, R.rest, hm.heap, hm.names, R.pc⟩, hm, ?_, (bot_top (b := C.top) (by rfl) C.rest)⟩
      · simp [hr, hround]
      · intro m hmm
        exact R.top.defs m (by rw [hd]; exact List.mem_cons_of_mem _ hmm)
      · rw [hf]
        exact .one (st_collected (ds := defsOf ρ ds) ho)
    · trivial
  · rename_i hd
    split
    · rename_i F hF
      split
      · rename_i vs hvs
        obtain ⟨h1, h2⟩ := resultS_ok (C := C) hT R.heap R.names R.top.slots R.top.names _ _ hvs
        have h3 := results_ok h1
        obtain ⟨hF1, _⟩ := hT.fn _ _ hF
        rw [hd] at hf
        have hnv : NamesV C.next (oneOf vs) := by
          intro m hm
          match vs, hm with
          | [], hm => simp [oneOf, SV.names, SV.namesL] at hm
          | [v], hm => exact h2 v (by simp) m (by simpa [oneOf] using hm)
          | a :: b :: l, hm =>
            simp only [oneOf, SV.names] at hm
            obtain ⟨v, hv, hm⟩ := mem_namesL.1 hm
            exact h2 v hv m hm
        refine giveBack_ok R (Move.rfl' R.heap R.names) hnv cs ?_ ?_
        · intro _
          refine ⟨?_, by rw [hf]⟩
          rw [hf]
          exact ⟨rfl, rfl, rfl, F, hF1, h3⟩
        · intro c cs
          rw [hf]
          exact st_returned hF1 h3
      · trivial
    · trivial
end
end Go.Proofs.Ytjgkaimgocnkmab.Sx
