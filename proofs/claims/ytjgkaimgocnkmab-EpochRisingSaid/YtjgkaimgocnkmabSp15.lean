/- A reckoner of Go's small steps over letters: regions that draw their order. No condition. -/
import Derived.Test.YtjgkaimgocnkmabSp14
set_option linter.unusedVariables false
set_option linter.unusedSimpArgs false
set_option linter.deprecated false
namespace Go.Proofs.Ytjgkaimgocnkmab.Sx
open Go
theorem countP_lt {α : Type} (l : List α) (p q : α → Bool) (h : ∀ x ∈ l, q x = true → p x = true) (hx : ∃ x ∈ l, p x = true ∧ q x = false) : l.countP q < l.countP p := by
  induction l with
  | nil => simp at hx
  | cons a l ih =>
    simp only [List.countP_cons]
    obtain ⟨x, hxm, h1, h2⟩ := hx
    have hle : l.countP q ≤ l.countP p := List.countP_mono_left (fun y hy => h y (List.mem_cons_of_mem _ hy))
    rcases List.mem_cons.1 hxm with rfl | hxm
    · simp [h1, h2]; omega
    · have := ih (fun y hy => h y (List.mem_cons_of_mem _ hy)) ⟨x, hxm, h1, h2⟩
      have ha := h a (List.mem_cons_self ..)
      cases hq : q a with
      | false => simp; split <;> omega
      | true => simp [ha hq]; omega
section
variable {P : Program} {orac : Orc} {b0 : World} {ρ : Rho} {ops : Array Oper} {es : List Eff} {slI : Nat → Option SV} {hI : Nat → Option SObj} {nx N : Nat}
def cntU (n : Nat) (L : Array Bool) : Nat := (List.range n).countP fun i => !L.getD i false
theorem getD_set (L : Array Bool) (i j : Nat) (hi : i < L.size) : (L.setIfInBounds i true).getD j false = (L.getD j false || decide (j = i)) := by
  rw [Array.getD_eq_getD_getElem?, Array.getD_eq_getD_getElem?, Array.getElem?_setIfInBounds]
  by_cases h : i = j
  · subst h; simp [hi]
  · simp [h, Ne.symm h]
theorem lin_ok (R : Reg P b0 orac ρ ops es slI hI nx N) {w0 : World} (fn : FuncId) (k : List Item) (ds : List Deferred) (r : Option Nat) (cs : List Frame) : ∀ (fuel t : Nat) (L : Array Bool) (ρ1 : Rho) (w1 : World) (tm : Array Value),
    L.size = ops.size → cntU ops.size L ≤ fuel → Inv P b0 ρ w0 ops es slI hI nx N (fun i => L.getD i false) ρ1 w1 tm →
    ∃ ρ' w' tm' D, Steps P (lone (fr fn tm (.inRegion ops (Region.linearise.go .any ops fuel t L []) :: k) ds r) cs w1) (lone (fr fn tm' (.inRegion ops [] :: k) ds r) cs w') ∧ Inv P b0 ρ w0 ops es slI hI nx N D ρ' w' tm' ∧ ∀ j, j < ops.size → D j = true := by
  intro fuel
  induction fuel with
  | zero =>
    intro t L ρ1 w1 tm hs hc I
    refine ⟨ρ1, w1, tm, _, by simp [Region.linearise.go]; exact .refl _ _, I, ?_⟩
    intro j hj
    cases hl : L.getD j false with
    | true => rfl
    | false =>
      have : 0 < cntU ops.size L := List.countP_pos_iff.2 ⟨j, by simpa using hj, by simp only [hl]; rfl⟩
      omega
  | succ fuel ih =>
    intro t L ρ1 w1 tm hs hc I
    simp only [Region.linearise.go]
    generalize hrs : (List.filter (fun i => !L.getD i true && (Option.map (fun x => x.after.all fun e => !Region.binds Region.Mode.any e || L.getD e.on false) ops[i]?).getD false) (List.range ops.size)) = rs
    have hmem : ∀ i, i ∈ rs ↔ i < ops.size ∧ L.getD i true = false ∧ ∃ o, ops[i]? = some o ∧ ∀ e ∈ o.after.toList, bindsA e = true → L.getD e.on false = true := by
      intro i
      rw [← hrs, List.mem_filter, List.mem_range]
      constructor
      · rintro ⟨h1, h2⟩
        simp only [Bool.and_eq_true, Bool.not_eq_true'] at h2
        refine ⟨h1, h2.1, ops[i], by simp [h1], ?_⟩
        intro e he hb
        have h3 := h2.2
        simp only [Array.getElem?_eq_getElem h1, Option.map_some, Option.getD_some] at h3
        rw [Array.all_eq_true_iff_forall_mem] at h3
        have := h3 e (by simpa using he)
        rw [bindsA_eq] at hb
        simpa [hb] using this
      · rintro ⟨h1, h2, o, h3, h4⟩
        refine ⟨h1, ?_⟩
        simp only [h2, Bool.not_false, Bool.true_and, h3, Option.map_some, Option.getD_some]
        rw [Array.all_eq_true_iff_forall_mem]
        intro e he
        cases hb : Region.binds .any e with
        | false => simp
        | true => simpa using h4 e (by simpa using he) (by rw [bindsA_eq]; exact hb)
    cases hi : rs[t % rs.length]? with
    | none =>
      have hnil : rs = [] := by
        cases rs with
        | nil => rfl
        | cons x xs =>
          have hlt : t % (x :: xs).length < (x :: xs).length := Nat.mod_lt _ (by simp)
          rw [List.getElem?_eq_getElem hlt] at hi; cases hi
      refine ⟨ρ1, w1, tm, _, by simp; exact .refl _ _, I, ?_⟩
      intro j
      induction j using Nat.strongRecOn with
      | _ j ihj =>
        intro hj
        cases hl : L.getD j false with
        | true => rfl
        | false =>
          exfalso
          have : j ∈ rs := (hmem j).2 ⟨hj, by
            rw [Array.getD_eq_getD_getElem?] at hl ⊢
            rw [Array.getElem?_eq_getElem (by omega)] at hl ⊢
            simpa using hl, ops[j], by simp [hj], fun e he hb => by
            have hlt := edgesOk_ok _ 0 R.edges j ops[j] (by simp [hj]) e he hb
            exact ihj e.on (by omega) (by omega)⟩
          rw [hnil] at this; cases this
    | some i =>
      obtain ⟨h1, h2, o, h3, h4⟩ := (hmem i).1 (List.mem_of_getElem? hi)
      have hf : L.getD i false = false := by
        rw [Array.getD_eq_getD_getElem?] at h2 ⊢
        rw [Array.getElem?_eq_getElem (by omega)] at h2 ⊢
        simpa using h2
      simp only []
      rw [linearise_go_acc, List.reverse_singleton, List.singleton_append]
      obtain ⟨ρ2, w2, tm2, hst, I2⟩ := inv_step R I h3 hf h4 fn k ds r cs (Region.linearise.go .any ops fuel (t / rs.length) (L.setIfInBounds i true) [])
      have hfun : (fun j => L.getD j false || decide (j = i)) = (fun j => (L.setIfInBounds i true).getD j false) := by
        funext j; rw [getD_set L i j (by omega)]
      rw [hfun] at I2
      obtain ⟨ρ', w', tm', D, hst2, I3, hall⟩ := ih (t / rs.length) (L.setIfInBounds i true) ρ2 w2 tm2 (by simp [hs]) (by
        have : cntU ops.size (L.setIfInBounds i true) < cntU ops.size L := by
          refine countP_lt _ _ _ ?_ ⟨i, by simpa using h1, by simp [hf], by rw [getD_set L i i (by omega)]; simp⟩
          intro x _ hx
          rw [getD_set L i x (by omega)] at hx
          simp at hx ⊢
          exact hx.1
        omega) I2
      exact ⟨ρ', w', tm', D, Steps.trans hst hst2, I3, hall⟩
end
section
variable {P : Program} {T : Tab} {b0 : World} {sub : Cfg → Out} {ρ : Rho}
theorem allOk_ok {ms : List Nat} {l : List RLeaf} (h : allOk T ms l = true) : ∀ r ∈ l, memOk r.effs ms r.effs 0 = true := by
  induction l with
  | nil => simp
  | cons r l ih =>
    simp only [allOk] at h
    split at h
    · rename_i h1
      intro r' hr
      rcases List.mem_cons.1 hr with rfl | hr
      · exact h1
      · exact ih h r' hr
    · cases h
theorem region_ok (hT : T.Ok P) (hs : SubOk P b0 T.orac sub) (hρ : ρ.Ok) (hO : OracOk P b0 T.orac ρ) {ops : Array Oper} (hops : slotsOk ops = true) {fuel : Nat} {pc : List BE} {sl : Slots} {h : SHeap} {nx : Nat} {rls : List RLeaf} {w : World} {tm : Array Value}
    (hp : Holds ρ pc) (H : HeapR ρ b0 h w) (hn : HNames nx h) (hsl : SlotsR ρ sl tm) (hsn : SNames nx sl) (hr : region T sub fuel pc ops.toList sl h nx = .leaves rls) (fn : FuncId) (id : Nat) (k : List Item) (ds : List Deferred) (r : Option Nat) (cs : List Frame) :
    PcOk T.orac.F RLeaf.pc pc rls ∧ ∃ rl ∈ rls, Holds ρ rl.pc ∧ ∃ ρ' w' tm', Steps P (lone (fr fn tm (.code (.region id ops true) :: k) ds r) cs w) (lone (fr fn tm' k ds r) cs w') ∧
      SlotsR ρ' rl.sl tm' ∧ SNames rl.next rl.sl ∧ Move ρ ρ' b0 h rl.heap nx rl.next w w' := by
  obtain ⟨e1, e2, e3⟩ := slotsOk_ok hops
  unfold region at hr
  split at hr
  · rename_i ls hls
    rw [fL_eq] at hr
    split at hr
    · rename_i hall
      cases hr
      obtain ⟨hpc, htr⟩ := regGo_ok (fun C ls h => (hs C ls h).1) hT.posts _ _ _ _ _ _ _ _ hls
      refine ⟨hpc, ?_⟩
      obtain ⟨rl, hrl, hh⟩ := hpc.some ρ ⟨hρ, hO.F⟩ hp
      refine ⟨rl, hrl, hh, ?_⟩
      obtain ⟨effs, he, ht⟩ := htr rl hrl
      simp at he
      subst he
      have hdom : Dom tm.size sl := by
        intro i
        have := hsl i
        by_cases hi : i < tm.size
        · rw [Array.getElem?_eq_getElem hi] at this
          cases hg : get2 sl i <;> simp [hg] at this ⊢
          omega
        · rw [Array.getElem?_eq_none (by omega)] at this
          cases hg : get2 sl i <;> simp [hg] at this ⊢
          omega
      have C := trace_facts hT hs hρ hO e2 ht hh 0 tm.size (by simp) hdom ⟨ρ, w, .refl ρ, H⟩ hn hsn
      have R : Reg P b0 T.orac ρ ops rl.effs (get2 sl) (lk h) nx rl.next := by
        refine ⟨e1, e3, by rw [C.len]; simp, ?_, C.order, ?_, fun t v hv => hsn t v hv, hn⟩
        · intro j e he
          obtain ⟨o, h1, h2⟩ := C.facts j e he
          exact ⟨o, by simpa using h1, h2⟩
        · intro i a j b ha hb hne
          have := memOk_ok rl.effs (masks ops.toList []) rl.effs 0 (allOk_ok hall rl hrl) i a ha j b hb (by omega)
          simpa [msk] using this
      have I0 : Inv P b0 ρ w ops rl.effs (get2 sl) (lk h) nx rl.next (fun i => (Array.replicate ops.size false).getD i false) ρ { w with drawn := w.drawn + 1 } tm := by
        have hf : ∀ i, (Array.replicate ops.size false).getD i false = false := by
          intro i
          rw [Array.getD_eq_getD_getElem?, Array.getElem?_replicate]
          split <;> rfl
        have hz : ∀ {V : Type} (ap : Eff → Nat → Option V → Option V) (W : Eff → Nat → Prop) (hid : ∀ e x v, ¬ W e x → ap e x v = v) (x : Nat) (v : Option V), stX ap rl.effs (fun i => (Array.replicate ops.size false).getD i false) ops.size x v = v := by
          intro V ap W hid x v
          rw [← stX_zero ap rl.effs (fun i => (Array.replicate ops.size false).getD i false) x v]
          conv => lhs; rw [stX_zero]
          exact stX_agree hid _ _ _ _ _ _ _ (fun i e _ _ => by simp [hf])
        refine ⟨.refl ρ, fun n _ => rfl, fun j hj => (by rw [hf] at hj; cases hj), fun j o hj => (by rw [hf] at hj; cases hj), ?_, ?_, Nat.le_refl _, fun _ _ _ => rfl, ?_⟩
        · intro t; rw [hz apS WS (fun e x v h => apS_id h v)]; exact hsl t
        · have : (fun x => stX apH rl.effs (fun i => (Array.replicate ops.size false).getD i false) ops.size x (lk h x)) = lk h := funext fun x => hz apH WH (fun e x v h => apH_id h v) x _
          rw [this]; exact drewN_heap H
        · intro x o hx
          rw [hz apH WH (fun e x v h => apH_id h v)] at hx
          exact .inl ⟨o, hx⟩
      obtain ⟨ρ', w', tm', D, hst, I, hDall⟩ := lin_ok R fn k ds r cs ops.size (w.tape w.drawn (.order fn id)) (Array.replicate ops.size false) ρ _ tm (by simp) (by unfold cntU; exact Nat.le_trans List.countP_le_length (by simp)) I0
      have hDS : ∀ {V : Type} (ap : Eff → Nat → Option V → Option V) (W : Eff → Nat → Prop) (hid : ∀ e x v, ¬ W e x → ap e x v = v) (x : Nat) (v : Option V), stX ap rl.effs D ops.size x v = stX ap rl.effs all rl.effs.length x v := by
        intro V ap W hid x v
        refine stX_agree hid _ _ _ _ _ _ _ (fun i e he _ => ?_)
        have hi : i < rl.effs.length := (List.getElem?_eq_some_iff.1 he).1
        have hi2 : i < ops.size := by have := R.len; omega
        simp [hi, hi2, hDall i hi2, all]
      refine ⟨ρ', w', tm', ?_, ?_, C.sn, ?_⟩
      · refine .head st_draw ?_
        rw [show Region.schedule (P.follows .mixedOrders) ops (w.tape w.drawn (.order fn id)) = Region.linearise.go .any ops ops.size (w.tape w.drawn (.order fn id)) (Array.replicate ops.size false) [] by
          simp [Region.schedule, hT.mixed, Region.linearise]]
        exact Steps.trans hst (.one st_region_end)
      · intro t
        rw [C.slots t, ← hDS apS WS (fun e x v h => apS_id h v)]
        exact I.slots t
      · have hheap : (fun x => stX apH rl.effs D ops.size x (lk h x)) = lk rl.heap := by
          funext x
          rw [C.heap x, hDS apH WH (fun e x v h => apH_id h v)]
        have hIH := I.heap
        rw [hheap] at hIH
        refine ⟨⟨I.same.i, I.same.b, I.same.l, I.same.v, I.same.z, I.a⟩, C.le, hIH, I.size, I.blocks, ?_, C.hn⟩
        intro x o hx
        rw [← hheap] at hx
        exact I.dom x o hx
    · cases hr
  · rename_i hh
    exact absurd hr (hh _)
end
end Go.Proofs.Ytjgkaimgocnkmab.Sx
