/- A reckoner of Go's small steps over letters: one operation by itself, its call and all. No condition. -/
import Derived.Test.YtjgkaimgocnkmabSp8b
set_option linter.unusedVariables false
set_option linter.unusedSimpArgs false
set_option linter.deprecated false
namespace Go.Proofs.Ytjgkaimgocnkmab.Sx
open Go
/-- Where a run of small steps comes to. -/
def RunOk (P : Program) (b0 : World) (orac : Orc) (C : Cfg) (ls : List Leaf) : Prop :=
  ∀ (ρ : Rho) (w : World) (f : Frame) (fs cs : List Frame), ρ.Ok → OracOk P b0 orac ρ → CfgR ρ b0 C w f fs →
    ∃ lf ∈ ls, Holds ρ lf.pc ∧ ∃ ρ' w' f', Steps P (lone f (fs ++ cs) w) (lone f' cs w') ∧ f'.leaving P w' (.returned (lf.val.den ρ')) ∧ f'.fn = bot C.top C.rest ∧
      Move ρ ρ' b0 C.heap lf.heap C.next lf.next w w' ∧ NamesV lf.next lf.val
def SubOk (P : Program) (b0 : World) (orac : Orc) (sub : Cfg → Out) : Prop := ∀ C ls, sub C = .leaves ls → PcOk orac.F Leaf.pc C.pc ls ∧ RunOk P b0 orac C ls
section
variable {P : Program} {T : Tab} {b0 : World} {sub : Cfg → Out} {ρ : Rho} {w : World}
theorem enter_R (hT : T.Ok P) {f : FuncId} {F : Func} {c : Code} {args : List SV} {N : Nat} (hF : T.fn.get f = some F) (hb : F.body = some c) (hn : NamesL N args) :
    FrameR ρ N (frameOf f F c args) (Frame.enter P f (SV.denL ρ args).toArray .normal) ∧ Frame.enter P f (SV.denL ρ args).toArray .normal = fr f ((SV.denL ρ args).toArray ++ Array.replicate (F.ntmps - (SV.denL ρ args).toArray.size) undef) [.code c] [] none := by
  obtain ⟨h1, _⟩ := hT.fn f F hF
  have he : Frame.enter P f (SV.denL ρ args).toArray .normal = fr f ((SV.denL ρ args).toArray ++ Array.replicate (F.ntmps - (SV.denL ρ args).toArray.size) undef) [.code c] [] none := by
    simp [Frame.enter, h1, hb]
  refine ⟨⟨?_, ?_, ?_, ?_, ?_, ?_, ?_⟩, he⟩
  · rw [he]; simp [frameOf, SItem.den, defsOf]
  · rw [he]
    intro i
    simp only [frameOf]
    rw [get2_chunk _ _ (by simp; omega)]
    simp only [List.getElem?_append, Array.getElem?_append, List.size_toArray, denL_length, List.getElem?_toArray, denL_get]
    split
    · rfl
    · rw [List.getElem?_replicate, Array.getElem?_replicate]
      split <;> simp [SV.den, SV.denL, undef]
  · intro i v hv
    simp only [frameOf] at hv
    rw [get2_chunk _ _ (by simp; omega)] at hv
    rcases List.mem_append.1 (List.mem_of_getElem? hv) with h | h
    · exact hn v h
    · rw [List.mem_replicate] at h
      rw [h.2]; intro n hn; simp [SV.names, SV.namesL] at hn
  · intro i hi
    simp only [frameOf, List.mem_singleton] at hi
    subst hi
    exact hT.code f F c hF hb
  · intro n hn; simp [frameOf] at hn
  · intro n hn; simp [frameOf] at hn
  · intro h; simp [frameOf] at h
theorem grown_move {h : SHeap} (H : HeapR ρ b0 h w) {nx : Nat} (hn : HNames nx h) {w' : World} (g : w.grownBy w' none) : Move ρ ρ b0 h h nx nx w w' := by
  refine ⟨.refl _ _ _, Nat.le_refl _, ⟨?_, ?_, H.own, H.inj⟩, g.size, fun k hk _ => g.block k hk (by simp), fun n o hh => .inl ⟨o, hh⟩, hn⟩
  · exact ⟨g.os.trans H.g0.os, g.tape.trans H.g0.tape, g.output.trans H.g0.output, Nat.le_trans H.g0.size g.size, fun k hk hne => (g.block k (Nat.lt_of_lt_of_le hk H.g0.size) (by simp)).trans (H.g0.block k hk hne)⟩
  · intro n o hn
    obtain ⟨obj, h1, h2⟩ := H.at_ n o hn
    exact ⟨obj, (g.block _ (HeapR.lt H hn) (by simp)).trans h1, h2⟩
theorem findO_ok {f : FuncId} {args : List SV} {l : List Orac} {o : Orac} (h : findO f args l = some o) : o ∈ l ∧ o.f = f ∧ o.args = args := by
  induction l with
  | nil => simp [findO] at h
  | cons x l ih =>
    simp only [findO] at h
    split at h
    · rename_i h1
      split at h
      · rename_i h2
        cases h
        exact ⟨List.mem_cons_self .., by simpa using h1, SV.beqL_eq _ _ h2⟩
      · obtain ⟨a, b⟩ := ih h; exact ⟨List.mem_cons_of_mem _ a, b⟩
    · obtain ⟨a, b⟩ := ih h; exact ⟨List.mem_cons_of_mem _ a, b⟩
theorem steps_call {f : FuncId} {args : Array Value} {R : Ending → World → Prop} (hc : Calls P f args w R) (hR : ∀ e w', R e w' → ∃ v, e = .returned v) (c : Frame) (cs : List Frame) :
    ∃ v w', R (.returned v) w' ∧ Steps P (lone (Frame.enter P f args .normal) (c :: cs) w) (lone (c.finish v) cs w') := by
  obtain ⟨e, w', fr', hr, hcom, hfn, hl⟩ := hc (c :: cs)
  obtain ⟨v, rfl⟩ := hR e w' hr
  exact ⟨v, w', hr, Steps.trans hcom (.one (step_leave_returned hl))⟩
theorem plainOp_defer {o : Oper} (h : plainOp o = true) : ∀ c, o.op ≠ .defer c := by
  intro c hc
  simp [plainOp, hc] at h
variable {fn : FuncId} {tmps X : Array Value} {k : List Item} {ds : List Deferred} {r : Option Nat} {cs : List Frame} {pc : List BE} {hF : SHeap} {nx : Nat} {sl : Slots} {o : Oper} {ls : List Leaf} {ops : Array Oper} {i : Nat} {rest : List Nat}
theorem alone_ok (hT : T.Ok P) (hs : SubOk P b0 T.orac sub) (hρ : ρ.Ok) (hO : OracOk P b0 T.orac ρ) (hp : Holds ρ pc) (H : HeapR ρ b0 hF w) (hn : HNames nx hF) (hX : SlotsR ρ sl X) (hsn : SNames nx sl)
    (ho : ops[i]? = some o) (hpl : plainOp o = true) (hw : Region.wanted o (yielded ops tmps) = true) (hev : execOp (Act.eval ⟨tmps, ds⟩) o = execOp (Act.eval ⟨X, ds⟩) o)
    (h : aloneOp T sub pc hF nx sl o = .inl (.leaves ls)) :
    ∃ lf ∈ ls, Holds ρ lf.pc ∧ ∃ ρ' w', Steps P (lone (fr fn tmps (.inRegion ops (i :: rest) :: k) ds r) cs w) (lone (fr fn (putA tmps o.dst (lf.val.den ρ')) (.inRegion ops rest :: k) ds r) cs w') ∧
      Move ρ ρ' b0 hF lf.heap nx lf.next w w' ∧ NamesV lf.next lf.val := by
  have hop := symOp_ok (P := P) (b0 := b0) (w := w) (a := ⟨X, ds⟩) hT hρ hp hO.F hO.rom H hn hX hsn o
  have hdf := plainOp_defer hpl
  unfold aloneOp at h
  split at h
  · rename_i v h' nx' hv
    rw [hv] at hop
    obtain ⟨ρ', w', nv, h1, h2, h3, h4⟩ := hop
    cases h
    refine ⟨_, List.mem_singleton.2 rfl, hp, ρ', w', .one (st_op_value ho hw hdf ?_), h3, h4⟩
    rw [hev]
    rcases h2 with rfl | ⟨rfl, rfl⟩
    · exact .inl h1
    · exact .inr ⟨h1, by simp [SV.den, SV.denL, undef]⟩
  · rename_i f args hv
    rw [hv] at hop
    obtain ⟨hop1, hop2⟩ := hop
    split at h
    · rename_i F hF'
      split at h
      · rename_i c hc
        obtain ⟨hfr, hent⟩ := enter_R (P := P) (ρ := ρ) hT hF' hc hop2
        obtain ⟨hf1, hf2⟩ := hT.fn f F hF'
        have henter := hop1 F hf1 (by rw [hc]; rfl) hf2
        split at h
        · rename_i oc hoc
          obtain ⟨hm, hf, ha⟩ := findO_ok hoc
          obtain ⟨⟨n1, n2, n3⟩, hcall⟩ := hO.l oc hm
          have hc := hcall w H.g0
          rw [hf, ha] at hc
          obtain ⟨v, w', ⟨hv1, hg⟩, hst⟩ := steps_call hc (fun e w' h => ⟨_, h.1⟩) (fr fn tmps (.inRegion ops (i :: rest) :: k) ds r) cs
          have hst2 : Steps P (lone (fr fn tmps (.inRegion ops (i :: rest) :: k) ds r) cs w) (lone (fr fn (putA tmps o.dst v) (.inRegion ops rest :: k) ds r) cs w') := by
            rw [finish_fr ho] at hst
            exact .head (st_op_enter ho hw hdf (by rw [hev]; exact henter)) hst
          have hmv := grown_move H hn hg
          cases hv1
          split at h
          · rename_i hd
            have hd' := dec_den hρ hp _ _ hd
            simp only [hd', if_true] at hst2
            cases h
            exact ⟨_, List.mem_singleton.2 rfl, hp, ρ, w', hst2, hmv, fun n hn => by rw [n2] at hn; cases hn⟩
          · rename_i hd
            have hd' := dec_den hρ hp _ _ hd
            simp only [hd', Bool.false_eq_true, if_false] at hst2
            cases h
            exact ⟨_, List.mem_singleton.2 rfl, hp, ρ, w', hst2, hmv, fun n hn => by rw [n3] at hn; cases hn⟩
          · cases h
        · split at h
          · rename_i u hu
            cases h
            obtain ⟨cc, hcm, hcf, hcu⟩ := findC_use hu
            obtain ⟨hpost, hcall⟩ := useC_ok (b0 := b0) (w := w) hT.posts hρ hp hn hO H hcm hcu
            rw [hcf] at hcall
            obtain ⟨v, w', ⟨ρ', hv1, hmv, hnv⟩, hst⟩ := steps_call hcall (fun e w' ⟨ρ', h, _⟩ => ⟨_, h⟩) (fr fn tmps (.inRegion ops (i :: rest) :: k) ds r) cs
            cases hv1
            rw [finish_fr ho] at hst
            exact ⟨_, List.mem_singleton.2 rfl, fun p hm => (List.mem_append.1 hm).elim (hpost p) (hp p), ρ', w', .head (st_op_enter ho hw hdf (by rw [hev]; exact henter)) hst, hmv, hnv⟩
          · cases h
          simp only [Sum.inl.injEq] at h
          obtain ⟨hpc, hrun⟩ := hs _ _ h
          obtain ⟨lf, hlf, hh, ρ', w', f', hst, hlv, _, hmv, hnv⟩ := hrun ρ w _ [] (fr fn tmps (.inRegion ops (i :: rest) :: k) ds r :: cs) hρ hO ⟨hfr, .nil, H, hn, hp⟩
          refine ⟨lf, hlf, hh, ρ', w', ?_, hmv, hnv⟩
          refine .head (st_op_enter ho hw hdf (by rw [hev]; exact henter)) (Steps.trans hst (.one ?_))
          have := step_leave_returned (P := P) (c := fr fn tmps (.inRegion ops (i :: rest) :: k) ds r) (cs := cs) hlv
          rw [finish_fr ho] at this
          exact this
      · cases h
    · cases h
  · cases h
  · cases h
  · cases h
end
end Go.Proofs.Ytjgkaimgocnkmab.Sx
