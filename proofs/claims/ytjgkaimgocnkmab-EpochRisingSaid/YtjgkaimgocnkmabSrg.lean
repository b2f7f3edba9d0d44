/- A reckoner of Go's small steps over letters: a range over a function. No condition. -/
import Derived.Test.YtjgkaimgocnkmabSp17
set_option linter.unusedVariables false
set_option linter.unusedSimpArgs false
set_option linter.deprecated false
namespace Go.Proofs.Ytjgkaimgocnkmab.Sx
open Go
section
variable {P : Program} {T : Tab} {b0 : World} {sub : Cfg → Out} {ρ : Rho} {w : World} {f : Frame} {fs : List Frame} {C : Cfg}
set_option maxHeartbeats 1000000 in
theorem range_ok (hT : T.Ok P) (R : CfgR ρ b0 C w f fs) (hr : C.top.ret = false) {x : Operand} {ps : Array Tmp} {as body : Code} {k : List SItem} (ht : C.top.todo = .code (.rangeFunc x ps as body) :: k) (cs : List Frame) :
    ResOk P T.orac.F b0 ρ C w f fs cs (stepRange T C x ps as body k) := by
  have hf := frame_run R.top hr
  rw [ht] at hf
  have hcode : codeOk (.rangeFunc x ps as body) = true := R.top.items (.code (.rangeFunc x ps as body)) (by rw [ht]; exact List.mem_cons_self ..)
  simp only [codeOk] at hcode
  split at hcode
  case isFalse => cases hcode
  rename_i hca
  have hxn := ev_names R.top.names x
  have hSN := ONames.back R.top.names
  have hcall : ∀ (g : FuncId) (F : Func) (fv : Value) (first captured : List SV) (ρ' : Rho) (l : Nat) (w' : World) (mk : List Deferred), Act.eval ⟨f.tmps, mk ++ defsOf ρ C.top.defers⟩ x = (SV.func (.func g) first captured).den ρ' → T.fn.get g = some F → F.body.isSome = true →
      ((do let d ← resolve (Act.eval ⟨f.tmps, mk ++ defsOf ρ C.top.defers⟩) { callee := .value x, args := #[.const (.func (.yield l) #[] #[])], argTypes := #[] } 0; invoke d.target d.args) : Sem Next).run P w' =
        .ok (.enter g ((SV.denL ρ' first).toArray ++ #[.func (.yield l) #[] #[]] ++ (SV.denL ρ' captured).toArray)) w' := by
    intro g F fv first captured ρ' l w' mk he hF hb
    obtain ⟨h1, h2⟩ := hT.fn g F hF
    have hb' : ¬ F.body = none := by intro hh; simp [hh] at hb
    have h2' : ¬ F.name = "runtime.NumGoroutine" := by simpa using h2
    have hcn : Act.eval ⟨f.tmps, mk ++ defsOf ρ C.top.defers⟩ (.const (.func (.yield l) #[] #[])) = .func (.yield l) #[] #[] := rfl
    generalize Act.eval ⟨f.tmps, mk ++ defsOf ρ C.top.defers⟩ = E at he hcn
    simp [resolve, he, hcn, SV.den, fnDen, Deferred.ofValue, invoke, callFunc, h1, h2', hb']
  unfold stepRange
  split
  · rename_i g first captured hx
    rw [hx] at hxn
    have hfn : ∀ N, C.next ≤ N → ∀ n, n < N → NamesL N (first ++ [.func (.yield n) [] []] ++ captured) := by
      intro N hN n hn v hv
      rcases List.mem_append.1 hv with hv | hv
      · rcases List.mem_append.1 hv with hv | hv
        · exact fun m hm => Nat.lt_of_lt_of_le (hxn m (by simp only [SV.names, List.mem_append]; exact .inl (mem_namesL.2 ⟨v, hv, hm⟩))) hN
        · simp at hv
          subst hv
          intro m hm
          simp [SV.names, SV.namesL] at hm
          subst hm; exact hn
      · exact fun m hm => Nat.lt_of_lt_of_le (hxn m (by simp only [SV.names, List.mem_append]; exact .inr (mem_namesL.2 ⟨v, hv, hm⟩))) hN
    split
    · rename_i hround
      rw [hround] at hf
      have m1 := Move.new R.heap R.names (.defd true) (.deferred (some [])) (by simp [ObjR]) (by simp [SObj.names])
      have hSl1 : SlotsR (ρ.set C.next w.heap.size) C.top.tmps f.tmps := R.top.slots.agr m1.agr (fun i v hv n hn => .inl (R.top.names i v hv n hn))
      have m2 := Move.new m1.heap m1.names (.loop .ready none C.top.fn C.top.tmps ps.toList as body C.next)
        (.loop { state := .ready, pending := none, fn := C.top.fn, tmps := f.tmps, params := ps, assign := as, body := body, defers := w.heap.size })
        ⟨f.tmps, hSl1, hca, hcode, fun c hc => (by cases hc), by simp [Rho.set_a]⟩ (by
          intro m hm
          simp only [SObj.names, List.mem_cons] at hm
          rcases hm with rfl | hm
          · omega
          · have := hSN m hm; omega)
      have hm := Move.trans m1 m2 R.names
      unfold enterS
      split
      · rename_i F hF
        split
        · rename_i c hc
          have e1 : ((ρ.set C.next w.heap.size).set (C.next + 1) (w.alloc (.deferred (some []))).heap.size).a (C.next + 1) = w.heap.size + 1 := by
            rw [Rho.set_a]; show (w.heap.push _).size = _; simp
          have e2 : ((ρ.set C.next w.heap.size).set (C.next + 1) (w.alloc (.deferred (some []))).heap.size).a C.next = w.heap.size := by
            simp [Rho.set]
          generalize hρ2 : (ρ.set C.next w.heap.size).set (C.next + 1) (w.alloc (.deferred (some []))).heap.size = ρ2 at hm e1 e2
          have htop := R.top.agr hm.agr hm.le
          have hk : k.map (SItem.den ρ2) = k.map (SItem.den ρ) := by
            apply List.map_congr_left
            intro j hj
            have := R.top.items j (by rw [ht]; exact List.mem_cons_of_mem _ hj)
            cases j <;> simp [SItem.den, SItem.okI] at this ⊢ <;> exact hm.agr.a _ (.inl this)
          have hd : defsOf ρ2 C.top.defers = defsOf ρ C.top.defers := List.map_congr_left fun n hn => by rw [hm.agr.a n (.inl (R.top.defs n hn))]
          have hargs : (SV.denL ρ2 (first ++ [.func (.yield (C.next + 1)) [] []] ++ captured)).toArray = (SV.denL ρ2 first).toArray ++ #[.func (.yield (w.heap.size + 1)) #[] #[]] ++ (SV.denL ρ2 captured).toArray := by
            simp [denL_append, SV.denL, SV.den, fnDen, e1]
          have hn2 := hfn (C.next + 1 + 1) (by omega) (C.next + 1) (by omega)
          have hent := enter_R (P := P) (ρ := ρ2) hT hF hc hn2
          refine ⟨rfl, ρ2, _, Frame.enter P g (SV.denL ρ2 (first ++ [.func (.yield (C.next + 1)) [] []] ++ captured)).toArray .normal,
            fr C.top.fn f.tmps (.inRangeFunc (w.heap.size + 1) :: k.map (SItem.den ρ)) ({ target := .collected w.heap.size, args := #[] } :: defsOf ρ C.top.defers) none :: fs,
            ⟨hent.1, .cons ⟨?_, htop.slots, htop.names, ?_, ?_, htop.rnd, fun h => R.top.rr h⟩ (R.rest.agr hm.agr hm.le), hm.heap, hm.names, (hm.agr.holds).2 R.pc⟩, hm, ?_, (by show bot _ C.rest = _; exact bot_top (b := C.top) (by rfl) C.rest)⟩
          · simp [hr, SItem.den, e1, hk, hround]
            simp [defsOf, e2] at hd ⊢
            first | exact hd.symm | exact fun n hn => (hd n hn).symm | exact hd
          · intro j hj
            rcases List.mem_cons.1 hj with rfl | hj
            · show C.next + 1 < C.next + 1 + 1; omega
            · exact htop.items j (by rw [ht]; exact List.mem_cons_of_mem _ hj)
          · intro n hn
            rcases List.mem_cons.1 hn with rfl | hn
            · show C.next < C.next + 1 + 1; omega
            · exact htop.defs n hn
          · rw [hf]
            have hev : Act.eval ⟨f.tmps, [{ target := .collected w.heap.size, args := #[] }] ++ defsOf ρ C.top.defers⟩ x = (SV.func (.func g) first captured).den ρ2 := by
              rw [ev_den (a := ⟨f.tmps, _⟩) htop.slots x, hx]
            refine .one ?_
            rw [hargs]
            refine st_range (l := w.heap.size + 1) (mk := [{ target := .collected w.heap.size, args := #[] }]) ?_ (hcall g F .nilFunc first captured ρ2 _ _ _ hev hF (by rw [hc]; rfl))
            simp [Instr.enterLoop, newObj, Sem.run]
        · trivial
      · trivial
    · rename_i l hround
      rw [hround] at hf
      split
      · rename_i st0 pend0 fn0 tmps0 ps0 as0 body0 d hl
        obtain ⟨obj, ho, hR⟩ := R.heap.at_ l _ hl
        obtain ⟨X0, hX0, _, _, _, hobj⟩ := hR
        subst hobj
        have hdn : d < C.next := (R.names l _ hl).2 d (by simp [SObj.names])
        have m1 := Move.new R.heap R.names (.loop .ready none C.top.fn C.top.tmps ps.toList as body d)
          (.loop { state := .ready, pending := none, fn := C.top.fn, tmps := f.tmps, params := ps, assign := as, body := body, defers := ρ.a d })
          ⟨f.tmps, R.top.slots, hca, hcode, fun c hc => (by cases hc), by simp⟩ (by
            intro m hm
            simp only [SObj.names, List.mem_cons] at hm
            rcases hm with rfl | hm
            · exact hdn
            · exact hSN m hm)
        unfold enterS
        split
        · rename_i F hF
          split
          · rename_i c hc
            have e1 : (ρ.set C.next w.heap.size).a C.next = w.heap.size := Rho.set_a _ _ _
            generalize hρ2 : ρ.set C.next w.heap.size = ρ2 at m1 e1
            have htop := R.top.agr m1.agr m1.le
            have hk : k.map (SItem.den ρ2) = k.map (SItem.den ρ) := by
              apply List.map_congr_left
              intro j hj
              have := R.top.items j (by rw [ht]; exact List.mem_cons_of_mem _ hj)
              cases j <;> simp [SItem.den, SItem.okI] at this ⊢ <;> exact m1.agr.a _ (.inl this)
            have hd : defsOf ρ2 C.top.defers = defsOf ρ C.top.defers := List.map_congr_left fun n hn => by rw [m1.agr.a n (.inl (R.top.defs n hn))]
            have hl2 : ρ2.a l = ρ.a l := m1.agr.a l (.inl (R.top.rnd l hround))
            have hargs : (SV.denL ρ2 (first ++ [.func (.yield C.next) [] []] ++ captured)).toArray = (SV.denL ρ2 first).toArray ++ #[.func (.yield w.heap.size) #[] #[]] ++ (SV.denL ρ2 captured).toArray := by
              simp [denL_append, SV.denL, SV.den, fnDen, e1]
            have hn2 := hfn (C.next + 1) (by omega) C.next (by omega)
            have hent := enter_R (P := P) (ρ := ρ2) hT hF hc hn2
            refine ⟨rfl, ρ2, _, Frame.enter P g (SV.denL ρ2 (first ++ [.func (.yield C.next) [] []] ++ captured)).toArray .normal,
              fr C.top.fn f.tmps (.inRangeFunc w.heap.size :: k.map (SItem.den ρ)) (defsOf ρ C.top.defers) (some (ρ.a l)) :: fs,
              ⟨hent.1, .cons ⟨?_, htop.slots, htop.names, ?_, htop.defs, htop.rnd, fun h => R.top.rr h⟩ (R.rest.agr m1.agr m1.le), m1.heap, m1.names, (m1.agr.holds).2 R.pc⟩, m1, ?_, (by show bot _ C.rest = _; exact bot_top (b := C.top) (by rfl) C.rest)⟩
            · simp [hr, SItem.den, e1, hk, hround, hd, hl2]
            · intro j hj
              rcases List.mem_cons.1 hj with rfl | hj
              · show C.next < C.next + 1; omega
              · exact htop.items j (by rw [ht]; exact List.mem_cons_of_mem _ hj)
            · rw [hf]
              have hev : Act.eval ⟨f.tmps, [] ++ defsOf ρ C.top.defers⟩ x = (SV.func (.func g) first captured).den ρ2 := by
                rw [ev_den (a := ⟨f.tmps, _⟩) htop.slots x, hx]
              refine .one ?_
              rw [hargs]
              refine st_range (l := w.heap.size) (mk := []) ?_ (hcall g F .nilFunc first captured ρ2 _ _ _ hev hF (by rw [hc]; rfl))
              simp [Instr.enterLoop, run_getLoop ho, newObj, Sem.run]
          · trivial
        · trivial
      · trivial
  · trivial
end
end Go.Proofs.Ytjgkaimgocnkmab.Sx
