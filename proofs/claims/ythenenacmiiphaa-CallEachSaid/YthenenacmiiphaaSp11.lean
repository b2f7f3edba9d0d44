/- A reckoner of Go's small steps over letters: values that are built, calls; all operations. No condition. -/
import Derived.Test.YthenenacmiiphaaSp4h
import Derived.RangeFuncLeaves
import Derived.Defers
import Derived.Orders
set_option linter.unusedVariables false
set_option linter.unusedSimpArgs false
set_option linter.deprecated false
namespace Go.Proofs.Ythenenacmiiphaa.Sx
open Go
section
variable {P : Program} {T : Tab} {ρ : Rho} {b0 : World} {pc : List BE} {h : SHeap} {nx : Nat} {w : World} {sl : Slots} {a : Act} {S : Sem Next}

theorem foldl_set (vs : List Value) : ∀ (j off : Nat) (cells : Array Value), off + j + vs.length ≤ cells.size →
    (vs.zipIdx j).foldl (fun (cs : Array Value) (p : Value × Nat) => cs.setIfInBounds (off + p.2) p.1) cells = (cells.toList.take (off + j) ++ vs ++ cells.toList.drop (off + j + vs.length)).toArray := by
  induction vs with
  | nil => intro j off cells h; simp
  | cons v vs ih =>
    intro j off cells h
    simp only [List.zipIdx_cons, List.foldl_cons, List.length_cons] at h ⊢
    rw [ih (j + 1) off _ (by simp; omega)]
    congr 1
    have e := list_seg_step cells.toList (off + j) v vs (by simp; omega)
    simpa [Array.toList_setIfInBounds, Nat.add_assoc, Nat.add_comm 1] using e
theorem fill_ok (places place : Nat → Option (Nat × Nat)) (hpl : ∀ i p, places i = some p → place i = some p) : ∀ (parts : List (Nat × SV)) (cells cs' : List SV), fillS places cells parts = some cs' →
    Instr.fill place (SV.denL ρ cells).toArray (parts.map fun p => (p.1, p.2.den ρ)) = some (SV.denL ρ cs').toArray ∧ (∀ m ∈ SV.namesL cs', m ∈ SV.namesL cells ∨ ∃ p ∈ parts, m ∈ p.2.names) := by
  intro parts
  induction parts with
  | nil => intro cells cs' h; simp only [fillS] at h; cases h; exact ⟨rfl, fun m hm => .inl hm⟩
  | cons p parts ih =>
    obtain ⟨i, v⟩ := p
    intro cells cs' h
    simp only [fillS] at h
    split at h
    · rename_i off size vs h1 h2
      split at h
      · rename_i h3
        split at h
        · rename_i h4
          have h3' : vs.length = size := by simpa using h3
          have h4' : off + vs.length ≤ cells.length := Nat.le_of_ble_eq_true h4
          obtain ⟨c1, c2⟩ := cells_den ρ _ _ h2
          obtain ⟨r1, r2⟩ := ih _ _ h
          refine ⟨?_, ?_⟩
          · simp only [List.map_cons, Instr.fill, hpl _ _ h1, c1]
            have hf := foldl_set (SV.denL ρ vs) 0 off (SV.denL ρ cells).toArray (by simp [denL_length]; omega)
            simp only [Nat.add_zero] at hf
            have hs : ¬ ((SV.denL ρ vs).toArray.size ≠ size || off + (SV.denL ρ vs).toArray.size > (SV.denL ρ cells).toArray.size) = true := by
              simp [denL_length]; omega
            rw [if_neg (by simpa using hs)]
            rw [show (SV.denL ρ vs).toArray.zipIdx.foldl (fun cs (c, j) => cs.setIfInBounds (off + j) c) (SV.denL ρ cells).toArray = (((SV.denL ρ vs).zipIdx 0).foldl (fun (cs : Array Value) (p : Value × Nat) => cs.setIfInBounds (off + p.2) p.1) (SV.denL ρ cells).toArray) by
              rw [← Array.foldl_toList]; simp]
            rw [hf]
            have : (SV.denL ρ (puts cells off vs)) = (SV.denL ρ cells).toArray.toList.take off ++ SV.denL ρ vs ++ (SV.denL ρ cells).toArray.toList.drop (off + (SV.denL ρ vs).length) := by
              rw [puts_eq vs cells off h4', denL_append, denL_append, denL_take, denL_drop, denL_length]
            rw [← this]
            exact r1
          · intro m hm
            rcases r2 m hm with hm | ⟨q, hq, hm⟩
            · rw [puts_eq vs cells off h4'] at hm
              obtain ⟨u, hu, hm2⟩ := mem_namesL.1 hm
              rcases List.mem_append.1 hu with hu | hu
              · rcases List.mem_append.1 hu with hu | hu
                · exact .inl (mem_namesL.2 ⟨u, List.mem_of_mem_take hu, hm2⟩)
                · exact .inr ⟨(i, v), List.mem_cons_self .., c2 ▸ mem_namesL.2 ⟨u, hu, hm2⟩⟩
              · exact .inl (mem_namesL.2 ⟨u, List.mem_of_mem_drop hu, hm2⟩)
            · exact .inr ⟨q, List.mem_cons_of_mem _ hq, hm⟩
        · cases h
      · cases h
    · cases h
theorem run_mapM_list {α β : Type} (f : α → Sem β) (g : α → β) (l : List α) (hf : ∀ x ∈ l, ∀ w, (f x).run P w = .ok (g x) w) (w : World) : (l.mapM f).run P w = .ok (l.map g) w := by
  induction l with
  | nil => simp
  | cons x l ih =>
    simp only [List.mapM_cons, Sem.run_bind, hf x (by simp) w, Result.andThen_ok, ih (fun y hy => hf y (by simp [hy])), Sem.run_pure, List.map_cons]
theorem allTy_ok (fs : List (Nat × TypeId)) (h : allTy T fs = true) : ∀ p ∈ fs, ∃ ti, T.ty.get p.2 = some ti := by
  induction fs with
  | nil => simp
  | cons p fs ih =>
    simp only [allTy] at h
    split at h
    · rename_i ti hti
      intro q hq
      rcases List.mem_cons.1 hq with rfl | hq
      · exact ⟨ti, hti⟩
      · exact ih h q hq
    · cases h
theorem parts_den (hsl : SlotsR ρ sl a.tmps) (parts : Array (Nat × Operand)) : (parts.map fun (i, x) => (i, a.eval x)).toList = (parts.toList.map fun p => (p.1, ev sl p.2)).map fun p => (p.1, p.2.den ρ) := by
 simp [Function.comp_def, ev_den hsl]
theorem parts_names (hs : SNames nx sl) (parts : Array (Nat × Operand)) : ∀ p ∈ (parts.toList.map fun p => (p.1, ev sl p.2)), NamesV nx p.2 := by
 intro p hp
 obtain ⟨q, _, rfl⟩ := List.mem_map.1 hp
 exact ev_names hs q.2
theorem build_ok (hT : T.Ok P) (H : HeapR ρ b0 h w) (hn : HNames nx h) (hsl : SlotsR ρ sl a.tmps) (hs : SNames nx sl) (t : TypeId) (parts : Array (Nat × Operand)) :
  ORok P ρ b0 h nx w (do pure (.value (← Instr.build t (parts.map fun (i, x) => (i, a.eval x))))) (opBuild T h nx sl t parts) := by
 unfold opBuild symBuild
 have hpn := parts_names hs parts
 have hpd := parts_den hsl parts
 generalize hL : (parts.toList.map fun p => (p.1, ev sl p.2)) = L at *
 split
 ·rename_i ti hti
  have hty := hT.ty t ti hti
  obtain ⟨d, hd, hst, _⟩ := hty.und
  obtain ⟨i, z, hi, hsz, hz, hc, _⟩ := hty.info
  split
  ·rename_i fs hu
   rw [hu] at hst
   obtain ⟨F, rfl, hF⟩ := hst
   split
   ·rename_i hall
    split
    ·rename_i cs hcs
     have hsz' : ∀ f ∈ F.toList, ∃ k, (sizeOf f.type : Sem Nat).run P = fun w => .ok k w := by
      intro f hf
      obtain ⟨tf, htf⟩ := allTy_ok fs hall (f.offset, f.type) (by rw [← hF]; exact List.mem_map.2 ⟨f, hf, rfl⟩)
      obtain ⟨i', z', hi', _, _, _, _⟩ := (hT.ty _ tf htf).info
      exact ⟨i'.size, funext fun w => run_sizeOf' hi' w⟩
     have hcell : ∀ f ∈ F.toList, ∀ w, (sizeOf f.type : Sem Nat).run P w = .ok (P.cellsOf f.type) w := by
      intro f hf w
      obtain ⟨tf, htf⟩ := allTy_ok fs hall (f.offset, f.type) (by rw [← hF]; exact List.mem_map.2 ⟨f, hf, rfl⟩)
      obtain ⟨i', z', hi', _, _, _, _⟩ := (hT.ty _ tf htf).info
      rw [run_sizeOf' hi' w]; simp [Program.cellsOf, hi']
     have hmap : ∀ w, ((F.mapM fun f => do pure (f.offset, ← sizeOf f.type) : Sem (Array (Nat × Nat)))).run P w = .ok (F.map fun f => (f.offset, P.cellsOf f.type)) w := by
      intro w
      rw [Array.mapM_eq_mapM_toList]
      have := run_mapM_list (P := P) (fun f : Field => (do pure (f.offset, ← sizeOf f.type) : Sem (Nat × Nat))) (fun f => (f.offset, P.cellsOf f.type)) F.toList (fun f hf w => by simp [hcell f hf w]) w
      simp only [Sem.run_map, this, Result.andThen_ok]
      congr 1
      apply Array.ext'
      simp
     obtain ⟨r1, r2⟩ := fill_ok (ρ := ρ) (structPlaces T fs) ((F.map fun f => (f.offset, P.cellsOf f.type))[·]?) (by
      intro j p hp
      unfold structPlaces at hp
      split at hp
      ·rename_i q hq
       obtain ⟨f, hf, ho, ht⟩ := field_at hF hq
       split at hp
       ·rename_i tf htf
        cases hp
        obtain ⟨i', z', hi', hs', _, _, _⟩ := (hT.ty _ tf htf).info
        simp [hf, ho, ht, Program.cellsOf, hi', hs']
       ·cases hp
      ·cases hp) L ti.zero cs hcs
     refine okSame H hn _ ?_ ?_
     ·simp only [Instr.build, Sem.run_bind, run_zeroOf hi hz, Result.andThen_ok, run_underlying hd, hmap, Sem.run_pure, hpd, hc ρ, r1]
      simp [SV.den]
     ·intro m hm
      simp only [SV.names] at hm
      rcases r2 m hm with hm | ⟨p, hp, hm⟩
      ·rw [hty.zn] at hm; cases hm
      ·exact hpn p hp m hm
    ·trivial
   ·trivial
  ·rename_i len el hu
   rw [hu] at hst
   simp only [StOk] at hst
   subst hst
   split
   ·rename_i te hte
    obtain ⟨i', z', hi', hs', _, _, _⟩ := (hT.ty _ te hte).info
    split
    ·rename_i cs hcs
     obtain ⟨r1, r2⟩ := fill_ok (ρ := ρ) _ (fun i => some (i * te.size, te.size)) (fun _ _ h => h) L ti.zero cs hcs
     refine okSame H hn _ ?_ ?_
     ·simp only [Instr.build, Sem.run_bind, run_zeroOf hi hz, Result.andThen_ok, run_underlying hd, run_sizeOf' hi', hs', Sem.run_pure, hpd, hc ρ, r1]
      simp [SV.den]
     ·intro m hm
      simp only [SV.names] at hm
      rcases r2 m hm with hm | ⟨p, hp, hm⟩
      ·rw [hty.zn] at hm; cases hm
      ·exact hpn p hp m hm
    ·trivial
   ·trivial
  ·trivial
 ·trivial
theorem buildSlice_ok (hT : T.Ok P) (H : HeapR ρ b0 h w) (hn : HNames nx h) (hsl : SlotsR ρ sl a.tmps) (hs : SNames nx sl) (t : TypeId) (len : Nat) (parts : Array (Nat × Operand)) :
  ORok P ρ b0 h nx w (do pure (.value (← Instr.buildSlice t len (parts.map fun (i, x) => (i, a.eval x))))) (opBuildSlice T h nx sl t len parts) := by
 unfold opBuildSlice symBuildSlice
 have hpn := parts_names hs parts
 have hpd := parts_den hsl parts
 generalize hL : (parts.toList.map fun p => (p.1, ev sl p.2)) = L at *
 split
 ·rename_i ti hti
  have hty := hT.ty t ti hti
  obtain ⟨d, hd, hst, _⟩ := hty.und
  split
  ·rename_i e hu
   rw [hu] at hst
   simp only [StOk] at hst
   subst hst
   split
   ·rename_i te hte
    have hte' := hT.ty e te hte
    obtain ⟨i', z', hi', hs', hz', hc', _⟩ := hte'.info
    split
    ·rename_i hle
     have hle' : len * te.size ≤ 4096 := Nat.le_of_ble_eq_true hle
     split
     ·rename_i cs hcs
      obtain ⟨r1, r2⟩ := fill_ok (ρ := ρ) _ (fun i => some (i * te.size, te.size)) (fun _ _ h => h) L (reps te.zero len) cs hcs
      have hzl : (SV.denL ρ te.zero).length = te.size := by rw [denL_length]; exact hte'.zl
      have hcells : (Array.range (len * te.size)).map (fun i => ((SV.denL ρ te.zero).toArray)[i % (SV.denL ρ te.zero).toArray.size]!) = (SV.denL ρ (reps te.zero len)).toArray := by
       rw [reps_den, ← reps_get, hzl]
      have hnames : ∀ m ∈ SV.namesL cs, m < nx := by
       intro m hm
       rcases r2 m hm with hm | ⟨p, hp, hm⟩
       ·have := reps_names _ _ m hm; rw [hte'.zn] at this; cases this
       ·exact hpn p hp m hm
      refine ⟨_, _, _, ?_, .inl rfl, Move.new H hn (.cells cs e) _ rfl hnames, fun n hm => by simp [SV.names] at hm; omega⟩
      have h24 : ¬ len * te.size > 2 ^ 24 := by omega
      by_cases h0 : len * te.size = 0
      ·have hz0 : (SV.denL ρ (reps te.zero len)).toArray = #[] := by
        rw [← hcells, h0]; simp
       rw [hz0] at r1
       have r1' : Instr.fill (fun i => some (i * te.size, te.size)) (Array.map (fun _ => (default : Value)) (Array.range 0)) (List.map (fun p => (p.fst, SV.den ρ p.snd)) L) = some (SV.denL ρ cs).toArray := by
        rw [show (Array.map (fun _ => (default : Value)) (Array.range 0)) = #[] by simp]; exact r1
       simp only [Instr.buildSlice, Sem.run_bind, run_underlying hd, Result.andThen_ok, run_sizeOf' hi', hs', h24, if_false, h0, if_true, Sem.run_pure, hpd]
       simp [h0, r1, r1', newRow, SV.den, Rho.set_a]
      ·simp only [Instr.buildSlice, Sem.run_bind, run_underlying hd, Result.andThen_ok, run_sizeOf' hi', hs', h24, if_false, h0, run_zeroOf hi' hz', Sem.run_pure, hpd, hc' ρ, hcells, r1]
       simp [hcells, r1, newRow, SV.den, Rho.set_a]
     ·trivial
    ·trivial
   ·trivial
  ·trivial
 ·trivial
theorem args_den (hsl : SlotsR ρ sl a.tmps) (l : Array Operand) : (SV.denL ρ (l.toList.map (ev sl))).toArray = l.map a.eval := by
 rw [denL_eq, List.map_map]
 apply Array.ext'
 simp
 exact fun x _ => (ev_den hsl x).symm
theorem call_ok (hT : T.Ok P) (hρ : ρ.Ok) (hp : Holds ρ pc) (hrom : RomOk T.orac b0 ρ) (H : HeapR ρ b0 h w) (hn : HNames nx h) (hsl : SlotsR ρ sl a.tmps) (hs : SNames nx sl) (c : Call) (ty : TypeId) :
  ORok P ρ b0 h nx w (do let d ← resolve a.eval c ty; invoke d.target d.args) (symCall T pc h nx sl c) := by
 have hargs : ∀ l : List Operand, NamesL nx (l.map (ev sl)) := by
  intro l v hv
  obtain ⟨x, _, rfl⟩ := List.mem_map.1 hv
  exact ev_names hs x
 unfold symCall
 split
 ·rename_i b hb
  split
  ·rename_i t ts x xs ht hx
   have e1 : c.argTypes[0]? = some t := by rw [← Array.getElem?_toList, ht]; rfl
   have e2 : (c.args.map a.eval)[0]? = some ((ev sl x).den ρ) := by
    rw [Array.getElem?_map, ← Array.getElem?_toList, hx]; simp [ev_den hsl]
   have hlen : ∀ (len : IE) (base : Option Addr) (cap : Nat), (ev sl x).den ρ = .slice base (len.den ρ).toNat cap → ORok P ρ b0 h nx w (do let d ← resolve a.eval c ty; invoke d.target d.args) (lenLs T pc h nx t len) := by
    intro len base cap he
    unfold lenLs
    split
    ·rename_i ti hti
     obtain ⟨d, hd, hst, _⟩ := (hT.ty t ti hti).und
     split
     ·rename_i e hu
      rw [hu] at hst
      simp only [StOk] at hst
      subst hst
      refine needO_ok hρ hp (fun hd0 => ?_)
      have g0 := le_t hd0
      rw [lit_den] at g0
      refine okSame H hn _ ?_ (fun m hm => by cases hm)
      rw [he] at e2
      simp [resolve, hb, invoke, builtin, Builtin.len_, e1, e2, run_underlying hd, SV.den, goInt]
      omega
     ·trivial
    ·trivial
   split
   ·rename_i r off len cap he
    exact hlen len _ _ (by rw [he]; simp only [SV.den]; rfl)
   ·rename_i n cn z off len cap he
    exact hlen len _ _ (by rw [he]; simp only [SV.den]; rfl)
   ·rename_i l he
    unfold lenStr
    split
    ·rename_i ti hti
     obtain ⟨d, hd, hst, _⟩ := (hT.ty t ti hti).und
     split
     ·rename_i hu
      rw [hu] at hst
      simp only [StOk] at hst
      subst hst
      refine okSame H hn _ ?_ (fun m hm => by cases hm)
      rw [he] at e2
      simp [resolve, hb, invoke, builtin, Builtin.len_, e1, e2, run_underlying hd, SV.den, goInt, byteL_size, lenE_den hρ hp]
     ·trivial
    ·trivial
   ·rename_i v0 he
    revert he
    intro he
    split
    ·rename_i v hv
     unfold symLen at hv
     split at hv
     ·rename_i ti hti
      obtain ⟨d, hd, hst, _⟩ := (hT.ty t ti hti).und
      split at hv
      ·rename_i n y hu
       cases hv
       rw [hu] at hst
       simp only [StOk] at hst
       subst hst
       refine okSame H hn _ ?_ (fun m hm => by cases hm)
       simp [resolve, hb, invoke, builtin, Builtin.len_, e1, e2, run_underlying hd, SV.den, IE.den, goInt]
      ·rename_i e n off len cap hu he
       cases hv
       rw [hu] at hst
       simp only [StOk] at hst
       subst hst
       refine okSame H hn _ ?_ (fun m hm => by cases hm)
       rw [he] at e2
       simp [resolve, hb, invoke, builtin, Builtin.len_, e1, e2, run_underlying hd, SV.den, IE.den, goInt]
      ·rename_i e n cn sz off len hu he
       cases hv
       rw [hu] at hst
       simp only [StOk] at hst
       subst hst
       refine okSame H hn _ ?_ (fun m hm => by cases hm)
       rw [he] at e2
       simp [resolve, hb, invoke, builtin, Builtin.len_, e1, e2, run_underlying hd, SV.den, IE.den, goInt]
      ·rename_i bs hu he
       cases hv
       rw [hu] at hst
       simp only [StOk] at hst
       subst hst
       refine okSame H hn _ ?_ (fun m hm => by cases hm)
       rw [he] at e2
       have hbs : (bytesOf (bs.map (IE.den ρ))).size = bs.length := by rw [bytesOf_size]; simp
       simp [resolve, hb, invoke, builtin, Builtin.len_, e1, e2, run_underlying hd, SV.den, IE.den, goInt, hbs]
      ·rename_i e hu he
       cases hv
       rw [hu] at hst
       simp only [StOk] at hst
       subst hst
       refine okSame H hn _ ?_ (fun m hm => by cases hm)
       rw [he] at e2
       simp [resolve, hb, invoke, builtin, Builtin.len_, e1, e2, run_underlying hd, SV.den, IE.den, goInt]
      ·cases hv
     ·cases hv
    ·trivial
  ·-- cap
   rename_i t ts x xs ht hx
   have e1 : c.argTypes[0]? = some t := by rw [← Array.getElem?_toList, ht]; rfl
   have e2 : (c.args.map a.eval)[0]? = some ((ev sl x).den ρ) := by
    rw [Array.getElem?_map, ← Array.getElem?_toList, hx]; simp [ev_den hsl]
   have hcap : ∀ (e : IE) (base : Option Addr) (n : Nat), (ev sl x).den ρ = .slice base n (e.den ρ).toNat → ORok P ρ b0 h nx w (do let d ← resolve a.eval c ty; invoke d.target d.args) (lenLs T pc h nx t e) := by
    intro len base cap he
    unfold lenLs
    split
    ·rename_i ti hti
     obtain ⟨d, hd, hst, _⟩ := (hT.ty t ti hti).und
     split
     ·rename_i e hu
      rw [hu] at hst
      simp only [StOk] at hst
      subst hst
      refine needO_ok hρ hp (fun hd0 => ?_)
      have g0 := le_t hd0
      rw [lit_den] at g0
      refine okSame H hn _ ?_ (fun m hm => by cases hm)
      rw [he] at e2
      simp [resolve, hb, invoke, builtin, Builtin.cap_, e1, e2, run_underlying hd, SV.den, goInt]
      omega
     ·trivial
    ·trivial
   split
   ·rename_i r off len e he
    exact hcap e _ _ (by rw [he]; simp only [SV.den, capDen]; rfl)
   ·rename_i n cn z off len e he
    exact hcap e _ _ (by rw [he]; simp only [SV.den, capDen]; rfl)
   split
   ·rename_i v hv
    unfold symCap at hv
    split at hv
    ·rename_i ti hti
     obtain ⟨d, hd, hst, _⟩ := (hT.ty t ti hti).und
     split at hv
     ·rename_i n y hu
      cases hv
      rw [hu] at hst
      simp only [StOk] at hst
      subst hst
      refine okSame H hn _ ?_ (fun m hm => by cases hm)
      simp [resolve, hb, invoke, builtin, Builtin.cap_, e1, e2, run_underlying hd, SV.den, IE.den, goInt]
     ·rename_i e n off len cap hu he
      cases hv
      rw [hu] at hst
      simp only [StOk] at hst
      subst hst
      refine okSame H hn _ ?_ (fun m hm => by cases hm)
      rw [he] at e2
      simp [resolve, hb, invoke, builtin, Builtin.cap_, e1, e2, run_underlying hd, SV.den, IE.den, goInt]
     ·rename_i e hu he
      cases hv
      rw [hu] at hst
      simp only [StOk] at hst
      subst hst
      refine okSame H hn _ ?_ (fun m hm => by cases hm)
      rw [he] at e2
      simp [resolve, hb, invoke, builtin, Builtin.cap_, e1, e2, run_underlying hd, SV.den, IE.den, goInt]
     ·cases hv
    ·cases hv
   ·trivial
  ·-- min
   rename_i x xs hx
   have ea : (c.args.map a.eval).toList = (ev sl x).den ρ :: (xs.map (ev sl)).map (SV.den ρ) := by
    rw [Array.toList_map, hx]; simp [ev_den hsl]
   split
   ·rename_i v hv
    obtain ⟨r1, r2⟩ := foldM2_ok (P := P) (ρ := ρ) (w := w) (min2S pc) Builtin.min2 (fun u v r h => min2_ok hρ hp u v r h) _ _ _ (ev_names hs x) hv
    refine okSame H hn _ ?_ r2
    simp [resolve, hb, invoke, builtin, Builtin.min_]
    rw [← Array.toList_map] at *
    simp only [ea]
    rw [r1]; rfl
   ·trivial
   ·trivial
  ·-- max
   rename_i x xs hx
   have ea : (c.args.map a.eval).toList = (ev sl x).den ρ :: (xs.map (ev sl)).map (SV.den ρ) := by
    rw [Array.toList_map, hx]; simp [ev_den hsl]
   split
   ·rename_i v hv
    obtain ⟨r1, r2⟩ := foldM2_ok (P := P) (ρ := ρ) (w := w) (max2S pc) Builtin.max2 (fun u v r h => max2_ok hρ hp u v r h) _ _ _ (ev_names hs x) hv
    refine okSame H hn _ ?_ r2
    simp [resolve, hb, invoke, builtin, Builtin.max_]
    rw [← Array.toList_map] at *
    simp only [ea]
    rw [r1]; rfl
   ·trivial
   ·trivial
  ·-- append
   rename_i t u ts x y xs ht hx
   have e1 : c.argTypes[0]? = some t := by rw [← Array.getElem?_toList, ht]; rfl
   have e1' : c.argTypes[1]? = some u := by rw [← Array.getElem?_toList, ht]; rfl
   have e2 : (c.args.map a.eval)[0]? = some ((ev sl x).den ρ) := by
    rw [Array.getElem?_map, ← Array.getElem?_toList, hx]; simp [ev_den hsl]
   have e2' : (c.args.map a.eval)[1]? = some ((ev sl y).den ρ) := by
    rw [Array.getElem?_map, ← Array.getElem?_toList, hx]; simp [ev_den hsl]
   have hA := symAppend_ok (P := P) (ty := ty) (t := t) (u := u) (s := ev sl x) (x := ev sl y) hT hρ hp H hn (ev_names hs x)
   have hB := symAppendL_ok (P := P) (ty := ty) (t := t) (u := u) (s := ev sl x) (x := ev sl y) hT hρ hp hrom H hn (ev_names hs x)
   have hZ := symAppendZ_ok (P := P) (ty := ty) (t := t) (u := u) (s := ev sl x) (x := ev sl y) hT hρ hp hrom H hn
   have he : (do let d ← resolve a.eval c ty; invoke d.target d.args) = (do pure (.value (← Builtin.append_ #[t, u] ty #[(ev sl x).den ρ, (ev sl y).den ρ])) : Sem Next) := by
    have : Builtin.append_ c.argTypes ty (c.args.map a.eval) = Builtin.append_ #[t, u] ty #[(ev sl x).den ρ, (ev sl y).den ρ] := by
     unfold Builtin.append_
     rw [e1, e1', e2, e2']; rfl
    simp only [resolve, hb, pure_bind, invoke, builtin, this]
   rw [he]
   split
   ·exact hZ
   ·split
    ·exact hB
    ·split
     ·exact hB
     ·split
      ·exact hB
      ·exact hA
  ·-- copy
   rename_i t u ts x y xs ht hx
   have e1 : c.argTypes[0]? = some t := by rw [← Array.getElem?_toList, ht]; rfl
   have e2 : (c.args.map a.eval)[0]? = some ((ev sl x).den ρ) := by
    rw [Array.getElem?_map, ← Array.getElem?_toList, hx]; simp [ev_den hsl]
   have e2' : (c.args.map a.eval)[1]? = some ((ev sl y).den ρ) := by
    rw [Array.getElem?_map, ← Array.getElem?_toList, hx]; simp [ev_den hsl]
   have hA := symCopy_ok (P := P) (ty := ty) (t := t) (u := u) (s := ev sl x) (x := ev sl y) hT hρ hp H hn (ev_names hs x)
   have hB := symCopyL_ok (P := P) (ty := ty) (t := t) (u := u) (s := ev sl x) (x := ev sl y) hT hρ hp hrom H hn (ev_names hs x)
   have he : (do let d ← resolve a.eval c ty; invoke d.target d.args) = (do pure (.value (← Builtin.copy_ #[t, u] ty #[(ev sl x).den ρ, (ev sl y).den ρ])) : Sem Next) := by
    have : Builtin.copy_ c.argTypes ty (c.args.map a.eval) = Builtin.copy_ #[t, u] ty #[(ev sl x).den ρ, (ev sl y).den ρ] := by
     unfold Builtin.copy_
     rw [e1, e2, e2']; rfl
    simp only [resolve, hb, pure_bind, invoke, builtin, this]
   rw [he]
   split
   ·exact hB
   ·exact hA
  ·-- clear
   rename_i t ts x xs ht hx
   have e1 : c.argTypes[0]? = some t := by rw [← Array.getElem?_toList, ht]; rfl
   have e2 : (c.args.map a.eval)[0]? = some ((ev sl x).den ρ) := by
    rw [Array.getElem?_map, ← Array.getElem?_toList, hx]; simp [ev_den hsl]
   have hA := symClear_ok (P := P) (ty := ty) (t := t) hT H hn (ev sl x)
   have hB := symClearL_ok (P := P) (ty := ty) (t := t) hT hρ hp hrom H hn (ev sl x)
   have he : (do let d ← resolve a.eval c ty; invoke d.target d.args) = (do pure (.value (← Builtin.clear_ #[t] ty #[(ev sl x).den ρ])) : Sem Next) := by
    have : Builtin.clear_ c.argTypes ty (c.args.map a.eval) = Builtin.clear_ #[t] ty #[(ev sl x).den ρ] := by
     unfold Builtin.clear_
     rw [e1, e2]; rfl
    simp only [resolve, hb, pure_bind, invoke, builtin, this]
   rw [he]
   split
   ·exact hB
   ·exact hA
  ·trivial
 ·trivial
 ·rename_i f hf
  have hfn := ev_names hs f
  split
  ·rename_i g p q he
   rw [he] at hfn
   refine ⟨?_, ?_⟩
   ·intro fn h1 h2 h3
    have hb : ¬ fn.body = none := by intro hh; simp [hh] at h2
    have h3' : ¬ fn.name = "runtime.NumGoroutine" := by simpa using h3
    simp [resolve, hf, ev_den hsl f, he, SV.den, fnDen, Deferred.ofValue, invoke, callFunc, h1, h3', hb, denL_append, ← args_den hsl c.args]
   ·intro v hv
    rcases List.mem_append.1 hv with hv | hv
    ·rcases List.mem_append.1 hv with hv | hv
     ·exact fun m hm => hfn m (by simp only [SV.names, List.mem_append]; exact .inl (mem_namesL.2 ⟨v, hv, hm⟩))
     ·exact hargs _ v hv
    ·exact fun m hm => hfn m (by simp only [SV.names, List.mem_append]; exact .inr (mem_namesL.2 ⟨v, hv, hm⟩))
  ·rename_i l q he
   rw [he] at hfn
   refine ⟨?_, hfn l (by simp [SV.names]), hargs _⟩
   simp [resolve, hf, ev_den hsl f, he, SV.den, SV.denL, fnDen, Deferred.ofValue, invoke, ← args_den hsl c.args]
  ·trivial
theorem symOp_ok (hT : T.Ok P) (hρ : ρ.Ok) (hp : Holds ρ pc) (hFg : ρ.z.F = T.orac.F) (hrom : RomOk T.orac b0 ρ) (H : HeapR ρ b0 h w) (hn : HNames nx h) (hsl : SlotsR ρ sl a.tmps) (hs : SNames nx sl) (o : Oper) :
  ORok P ρ b0 h nx w (execOp a.eval o) (symOp T pc h nx sl o) := by
 obtain ⟨dst, op, ty, pos, af, gd⟩ := o
 cases op <;> simp only [symOp] <;> first
  | trivial
  | exact move_ok H hn hsl hs _
  | exact pick_ok hρ hp H hn hsl hs _ _ _
  | exact allocX_ok hT hρ H hn _
  | exact box_ok H hn hsl hs _ _
  | exact build_ok hT H hn hsl hs _ _
  | exact buildSlice_ok hT H hn hsl hs _ _ _
  | exact load_ok hT hρ hp hFg hrom H hn hsl hs _ _
  | exact store_ok hT hρ hp hrom H hn hsl hs _ _ _
  | exact nil_ok H hn hsl hs _ _ _ _ _ _
  | exact bin_ok hT hρ hp hrom H hn hsl hs _ _ _ _
  | exact un_ok hρ hp H hn hsl _ _
  | exact conv_okX hT hρ hp hrom H hn hsl _ _ _
  | exact func_ok H hn hsl hs _ _ _
  | exact fa_ok hT H hn hsl hs _ _ _
  | exact f_ok hT H hn hsl hs _ _ _
  | exact iaX_ok hT hρ hp hrom H hn hsl hs _ _ _
  | exact i_ok hT hρ hp hrom.typed H hn hsl hs _ _ _
  | exact extract_ok H hn hsl hs _ _
  | exact call_ok hT hρ hp hrom H hn hsl hs _ _
  | exact sliceX_ok hT hρ hp hrom H hn hsl hs _ _ _ _ _
  | exact makeSliceX_ok hT hρ hp hrom H hn hsl _ _ _
  | exact makeI_ok hT H hn hsl hs _ _
  | exact assert_ok hT H hn hsl hs _ _ _ _
  | exact makeMap_ok H hn _ _
  | exact look_ok hT hρ hp H hn hsl hs _ _ _ _
  | exact set_ok hT hρ hp H hn hsl hs _ _ _ _
end
end Go.Proofs.Ythenenacmiiphaa.Sx
namespace Go.Proofs.Ythenenacmiiphaa.Sx
open Go
structure RK where
 rd : Option Nat
 kd : CallKind
abbrev fr (fn : FuncId) (tmps : Array Value) (todo : List Item) (ds : List Deferred) (r : RK) : Frame :=
 { fn := fn, tmps := tmps, todo := todo, defers := ds, mode := .run, kind := r.kd, roundOf := r.rd }
def putA (tmps : Array Value) (dst : Option Tmp) (v : Value) : Array Value :=
 match dst with
 | some d => tmps.setIfInBounds d v
 | none => tmps
section
variable {P : Program} {fn : FuncId} {tmps : Array Value} {k : List Item} {ds : List Deferred} {r : RK} {cs : List Frame} {w : World}
theorem st_skip : step P (lone (fr fn tmps (.code .skip :: k) ds r) cs w) = .next (lone (fr fn tmps k ds r) cs w) :=
 step_lone_go (by simp [stepG, stepG.exec])
theorem st_label {l : Nat} : step P (lone (fr fn tmps (.code (.label l) :: k) ds r) cs w) = .next (lone (fr fn tmps k ds r) cs w) :=
 step_lone_go (by simp [stepG, stepG.exec])
theorem st_inBlock {id : Nat} : step P (lone (fr fn tmps (.inBlock id :: k) ds r) cs w) = .next (lone (fr fn tmps k ds r) cs w) :=
 step_lone_go (by simp [stepG, stepG.exec])
theorem st_inScope {c : Code} : step P (lone (fr fn tmps (.inScope c :: k) ds r) cs w) = .next (lone (fr fn tmps k ds r) cs w) :=
 step_lone_go (by simp [stepG, stepG.exec])
theorem st_seq {x y : Code} : step P (lone (fr fn tmps (.code (.seq x y) :: k) ds r) cs w) = .next (lone (fr fn tmps (.code x :: .code y :: k) ds r) cs w) :=
 step_lone_go (by simp [stepG, stepG.exec])
theorem st_cond {c : Operand} {x y : Code} {t : Bool} (h : Act.eval ⟨tmps, ds⟩ c = .bool t) : step P (lone (fr fn tmps (.code (.cond c x y) :: k) ds r) cs w) = .next (lone (fr fn tmps (.code (if t then x else y) :: k) ds r) cs w) :=
 step_lone_go (by
  have : Frame.eval (fr fn tmps (.code (.cond c x y) :: k) ds r) c = .bool t := by rw [← h]; cases c <;> rfl
  simp only [fr] at this
  simp [stepG, stepG.exec, this])
theorem st_block {id : Nat} {c : Code} : step P (lone (fr fn tmps (.code (.block id c) :: k) ds r) cs w) = .next (lone (fr fn tmps (.code c :: .inBlock id :: k) ds r) cs w) :=
 step_lone_go (by simp [stepG, stepG.exec])
theorem st_loop {c : Code} : step P (lone (fr fn tmps (.code (.loop c) :: k) ds r) cs w) = .next (lone (fr fn tmps (.code c :: .inLoop c :: k) ds r) cs w) :=
 step_lone_go (by simp [stepG, stepG.exec])
theorem st_inLoop {c : Code} : step P (lone (fr fn tmps (.inLoop c :: k) ds r) cs w) = .next (lone (fr fn tmps (.code c :: .inLoop c :: k) ds r) cs w) :=
 step_lone_go (by simp [stepG, stepG.exec])
theorem st_scope {c : Code} : step P (lone (fr fn tmps (.code (.scope c) :: k) ds r) cs w) = .next (lone (fr fn tmps (.code c :: .inScope c :: k) ds r) cs w) :=
 step_lone_go (by simp [stepG, stepG.exec])
theorem st_exit {id : Nat} {k' : List Item} (h : exitTo id k = some k') : step P (lone (fr fn tmps (.code (.exit id) :: k) ds r) cs w) = .next (lone (fr fn tmps k' ds r) cs w) :=
 step_lone_go (by simp [stepG, stepG.exec, h])
theorem st_goto {l : Nat} {k' : List Item} (h : gotoIn l k = some k') : step P (lone (fr fn tmps (.code (.goto l) :: k) ds r) cs w) = .next (lone (fr fn tmps k' ds r) cs w) :=
 step_lone_go (by simp [stepG, stepG.exec, h])
theorem st_ret {kd : CallKind} : step P (lone (fr fn tmps (.code .ret :: k) ds ⟨none, kd⟩) cs w) = .next (lone { fr fn tmps (.code .ret :: k) ds ⟨none, kd⟩ with mode := .returning } cs w) :=
 step_lone_go (by simp [stepG, stepG.exec])
theorem st_end {kd : CallKind} : step P (lone (fr fn tmps [] ds ⟨none, kd⟩) cs w) = .next (lone { fr fn tmps [] ds ⟨none, kd⟩ with mode := .returning } cs w) :=
 step_lone_go (by simp [stepG, stepG.exec])
theorem st_region {id : Nat} {ops : Array Oper} : step P (lone (fr fn tmps (.code (.region id ops false) :: k) ds r) cs w) = .next (lone (fr fn tmps (.inRegion ops (List.range ops.size) :: k) ds r) cs w) :=
 step_lone_go (by simp [stepG, stepG.exec])
theorem st_region_end {ops : Array Oper} : step P (lone (fr fn tmps (.inRegion ops [] :: k) ds r) cs w) = .next (lone (fr fn tmps k ds r) cs w) :=
 step_lone_go (by simp [stepG, stepG.exec])
theorem st_draw {id : Nat} {ops : Array Oper} : step P (lone (fr fn tmps (.code (.region id ops true) :: k) ds r) cs w) =
  .next (lone (fr fn tmps (.inRegion ops (Region.schedule (P.follows .mixedOrders) ops (w.tape w.drawn (.order fn id))) :: k) ds r) cs { w with drawn := w.drawn + 1 }) :=
 step_lone_go (by simp [stepG, stepG.exec, choose, Sem.run, Question.forced, Question.cut])
theorem finish_fr {ops : Array Oper} {i : Nat} {rest : List Nat} {o : Oper} (ho : ops[i]? = some o) (v : Value) : (fr fn tmps (.inRegion ops (i :: rest) :: k) ds r).finish v = fr fn (putA tmps o.dst v) (.inRegion ops rest :: k) ds r := by
 cases h : o.dst <;> simp [Frame.finish, ho, h, putA]
theorem st_op_skip {ops : Array Oper} {i : Nat} {rest : List Nat} {o : Oper} (ho : ops[i]? = some o) (hw : Region.wanted o (yielded ops tmps) = false) :
  step P (lone (fr fn tmps (.inRegion ops (i :: rest) :: k) ds r) cs w) = .next (lone (fr fn (putA tmps o.dst undef) (.inRegion ops rest :: k) ds r) cs w) := by
 rw [← finish_fr ho]
 exact step_lone_go (by simp [stepG, stepG.exec, ho, hw])
theorem eval_fr (todo : List Item) : (fr fn tmps todo ds r).eval = Act.eval ⟨tmps, ds⟩ := by funext x; cases x <;> rfl
theorem stG_op {ops : Array Oper} {i : Nat} {rest : List Nat} {o : Oper} (ho : ops[i]? = some o) (hw : Region.wanted o (yielded ops tmps) = true) (hd : ∀ c, o.op ≠ .defer c) :
  stepG P true { frame := fr fn tmps (.inRegion ops (i :: rest) :: k) ds r, callers := cs, status := .running, dying := none } w =
   stepG.apply P true (fr fn tmps (.inRegion ops (i :: rest) :: k) ds r) cs none (execOp (Act.eval ⟨tmps, ds⟩) o) w := by
 have he := eval_fr (fn := fn) (tmps := tmps) (ds := ds) (r := r) (.inRegion ops (i :: rest) :: k)
 simp only [fr] at he
 simp only [stepG, stepG.exec, ho, Option.map_some, Option.getD_some, hw, if_true, stepG.oper, Frame.oper?, fr]
 obtain ⟨r, kd⟩ := r
 cases r with
 | none => simp [he]
 | some l =>
  rw [he]
  split
  ·rename_i l' c h1 hc
   exact absurd hc (hd c)
  ·rfl
theorem st_op_value {ops : Array Oper} {i : Nat} {rest : List Nat} {o : Oper} (ho : ops[i]? = some o) (hw : Region.wanted o (yielded ops tmps) = true) (hd : ∀ c, o.op ≠ .defer c) {v : Value} {w' : World}
  (hr : (execOp (Act.eval ⟨tmps, ds⟩) o).run P w = .ok (.value v) w' ∨ ((execOp (Act.eval ⟨tmps, ds⟩) o).run P w = .ok .skip w' ∧ v = undef)) :
  step P (lone (fr fn tmps (.inRegion ops (i :: rest) :: k) ds r) cs w) = .next (lone (fr fn (putA tmps o.dst v) (.inRegion ops rest :: k) ds r) cs w') := by
 refine step_lone_go ?_
 rw [stG_op ho hw hd, ← finish_fr ho]
 rcases hr with hr | ⟨hr, rfl⟩ <;> simp [stepG.apply, hr]
theorem st_op_enter {ops : Array Oper} {i : Nat} {rest : List Nat} {o : Oper} (ho : ops[i]? = some o) (hw : Region.wanted o (yielded ops tmps) = true) (hd : ∀ c, o.op ≠ .defer c) {f : FuncId} {args : Array Value} {w' : World}
  (hr : (execOp (Act.eval ⟨tmps, ds⟩) o).run P w = .ok (.enter f args) w') :
  step P (lone (fr fn tmps (.inRegion ops (i :: rest) :: k) ds r) cs w) = .next (lone (Frame.enter P f args .normal) (fr fn tmps (.inRegion ops (i :: rest) :: k) ds r :: cs) w') := by
 refine step_lone_go ?_
 rw [stG_op ho hw hd]
 simp [stepG.apply, hr]
theorem st_op_round {ops : Array Oper} {i : Nat} {rest : List Nat} {o : Oper} (ho : ops[i]? = some o) (hw : Region.wanted o (yielded ops tmps) = true) (hd : ∀ c, o.op ≠ .defer c) {l : Nat} {f : FuncId} {tm : Array Value} {as body : Code} {w' : World}
  (hr : (execOp (Act.eval ⟨tmps, ds⟩) o).run P w = .ok (.round l f tm as body) w') :
  step P (lone (fr fn tmps (.inRegion ops (i :: rest) :: k) ds r) cs w) = .next (lone (fr f tm [.code as, .beginRound, .code body] [] ⟨some l, .normal⟩) (fr fn tmps (.inRegion ops (i :: rest) :: k) ds r :: cs) w') := by
 refine step_lone_go ?_
 rw [stG_op ho hw hd]
 simp [stepG.apply, hr, Frame.round]
theorem st_returned {f : FuncId} {todo : List Item} {c : Frame} {F : Func} {v : Value} (hF : P.funcs[f]? = some F) (hr : (results F tmps).run P w = .ok v w) :
  step P (lone { fr f tmps todo [] ⟨none, .normal⟩ with mode := .returning } (c :: cs) w) = .next (lone (c.finish v) cs w) :=
 step_leave_returned ⟨rfl, rfl, rfl, F, hF, hr⟩
theorem st_collected {f : FuncId} {todo : List Item} {b : Nat} (hb : w.heap[b]? = some (.deferred (some []))) :
  ∀ {m : FrameMode}, m ≠ .run → step P (lone { fr f tmps todo ({ target := .collected b, args := #[] } :: ds) r with mode := m } cs w) = .next (lone { fr f tmps todo ds r with mode := m } cs (World.putO w b (.deferred none))) := by
 intro m hmode
 refine step_lone_go ?_
 have hr : (Instr.takeDeferred b).run P w = .ok [] (World.putO w b (.deferred none)) := by
  simp [Instr.takeDeferred, getObj, setObj, Sem.run, hb, World.putO]
 cases m with
 | run => exact absurd rfl hmode
 | returning => simp [stepG, unwind, hr]
 | panicking ch => simp [stepG, unwind, hr]
theorem st_range {f : Operand} {params : Array Tmp} {assign body : Code} {l : Nat} {mk : List Deferred} {w' : World} {g : FuncId} {args : Array Value}
  (h1 : (Instr.enterLoop fn tmps params assign body r.rd).run P w = .ok (l, mk) w')
  (h2 : ((do let d ← resolve (Act.eval ⟨tmps, mk ++ ds⟩) { callee := .value f, args := #[.const (.func (.yield l) #[] #[])], argTypes := #[] } 0; invoke d.target d.args) : Sem Next).run P w' = .ok (.enter g args) w') :
  step P (lone (fr fn tmps (.code (.rangeFunc f params assign body) :: k) ds r) cs w) = .next (lone (Frame.enter P g args .normal) (fr fn tmps (.inRangeFunc l :: k) (mk ++ ds) r :: cs) w') := by
 refine step_lone_go ?_
 have he := eval_fr (fn := fn) (tmps := tmps) (ds := mk ++ ds) (r := r) (.inRangeFunc l :: k)
 simp only [fr] at he
 simp only [stepG, stepG.exec, fr, Sem.runT_eq, h1, GStep.bare_after]
 rw [he]
 simp [stepG.apply, h2]
theorem st_endRange {l : Nat} {jump : Option Code} {w' : World} (h : (Instr.endLoop l).run P w = .ok jump w') :
  step P (lone (fr fn tmps (.endRangeFunc l :: k) ds r) cs w) = .next (lone (fr fn tmps ((jump.map Item.code).toList ++ k) ds r) cs w') := by
 refine step_lone_go ?_
 simp [stepG, stepG.exec, h]
theorem st_begin {l : Nat} {kd : CallKind} {w' : World} (h : (Instr.beginRound l).run P w = .ok () w') :
  step P (lone (fr fn tmps (.beginRound :: k) ds ⟨some l, kd⟩) cs w) = .next (lone (fr fn tmps k ds ⟨some l, kd⟩) cs w') := by
 refine step_lone_go ?_
 simp [stepG, stepG.exec, stepG.apply, h, Frame.finish]
theorem st_leave_round {todo : List Item} {l : Nat} {jump : Option Code} {v : Value} {w' : World} {c : Frame} (h : (Instr.endRound l jump).run P w = .ok v w')
  (ht : (todo = [] ∧ jump = none) ∨ (∃ k, todo = .code .ret :: k ∧ jump = some .ret) ∨ (∃ id k, todo = .code (.exit id) :: k ∧ exitTo id k = none ∧ jump = some (.exit id)) ∨ (∃ g k, todo = .code (.goto g) :: k ∧ gotoIn g k = none ∧ jump = some (.goto g))) :
  step P (lone (fr fn tmps todo ds ⟨some l, .normal⟩) (c :: cs) w) = .next (lone (c.finish v) cs w') := by
 refine step_lone_go ?_
 rcases ht with ⟨rfl, rfl⟩ | ⟨k, rfl, rfl⟩ | ⟨id, k, rfl, he, rfl⟩ | ⟨g, k, rfl, he, rfl⟩
 ·simp [stepG, stepG.exec, h, doReturn]
 ·simp [stepG, stepG.exec, h, doReturn]
 ·simp [stepG, stepG.exec, h, doReturn, he]
 ·simp [stepG, stepG.exec, h, doReturn, he]
theorem st_op_panic {ops : Array Oper} {i : Nat} {rest : List Nat} {o : Oper} (ho : ops[i]? = some o) (hw : Region.wanted o (yielded ops tmps) = true) (hd : ∀ c, o.op ≠ .defer c) {v : Value} {w' : World}
  (hr : (execOp (Act.eval ⟨tmps, ds⟩) o).run P w = .halt (.panic v) w') :
  step P (lone (fr fn tmps (.inRegion ops (i :: rest) :: k) ds r) cs w) = .next (lone { fr fn tmps (.inRegion ops (i :: rest) :: k) ds r with mode := .panicking [{ v := v, recovered := false }] } cs w') := by
 refine step_lone_go ?_
 rw [stG_op ho hw hd]
 simp [stepG.apply, hr, Frame.raise]
theorem st_op_defer {ops : Array Oper} {i : Nat} {rest : List Nat} {o : Oper} {kd : CallKind} (ho : ops[i]? = some o) (hw : Region.wanted o (yielded ops tmps) = true) {d : Deferred}
  (hr : (execOp (Act.eval ⟨tmps, ds⟩) o).run P w = .ok (.defer d) w) :
  step P (lone (fr fn tmps (.inRegion ops (i :: rest) :: k) ds ⟨none, kd⟩) cs w) = .next (lone (fr fn (putA tmps o.dst undef) (.inRegion ops rest :: k) (d :: ds) ⟨none, kd⟩) cs w) := by
 refine step_lone_go ?_
 have he := eval_fr (fn := fn) (tmps := tmps) (ds := ds) (r := ⟨none, kd⟩) (.inRegion ops (i :: rest) :: k)
 simp only [fr] at he
 rw [← finish_fr ho]
 simp only [stepG, stepG.exec, ho, Option.map_some, Option.getD_some, hw, if_true, stepG.oper, Frame.oper?, fr, he]
 simp [stepG.apply, hr, Frame.finish, ho]
theorem st_op_rec {ops : Array Oper} {i : Nat} {rest : List Nat} {o : Oper} (ho : ops[i]? = some o) (hw : Region.wanted o (yielded ops tmps) = true) (hd : ∀ c, o.op ≠ .defer c) {c : Frame} {v : Value}
  (hr : (execOp (Act.eval ⟨tmps, ds⟩) o).run P w = .ok .recover w) (hm : c.mode = .panicking [{ v := v, recovered := false }]) :
  step P (lone (fr fn tmps (.inRegion ops (i :: rest) :: k) ds ⟨none, .deferred⟩) (c :: cs) w) = .next (lone (fr fn (putA tmps o.dst v) (.inRegion ops rest :: k) ds ⟨none, .deferred⟩) ({ c with mode := .panicking [{ v := v, recovered := true }] } :: cs) w) := by
 refine step_lone_go ?_
 rw [stG_op ho hw hd, ← finish_fr ho]
 simp [stepG.apply, hr, tryRecover, hm]
theorem st_op_rec0 {ops : Array Oper} {i : Nat} {rest : List Nat} {o : Oper} (ho : ops[i]? = some o) (hw : Region.wanted o (yielded ops tmps) = true) (hd : ∀ c, o.op ≠ .defer c) {c : Frame}
  (hr : (execOp (Act.eval ⟨tmps, ds⟩) o).run P w = .ok .recover w) (hm : c.mode = .returning) :
  step P (lone (fr fn tmps (.inRegion ops (i :: rest) :: k) ds ⟨none, .deferred⟩) (c :: cs) w) = .next (lone (fr fn (putA tmps o.dst .nilIface) (.inRegion ops rest :: k) ds ⟨none, .deferred⟩) (c :: cs) w) := by
 refine step_lone_go ?_
 rw [stG_op ho hw hd, ← finish_fr ho]
 simp [stepG.apply, hr, tryRecover, hm]
end
end Go.Proofs.Ythenenacmiiphaa.Sx
namespace Go.Proofs.Ythenenacmiiphaa.Sx
open Go
structure PcOk {α : Type} (F : Fns) (f : α → List BE) (pc : List BE) (l : List α) : Prop where
 some : ∀ ρ, Gd F ρ → Holds ρ pc → ∃ x ∈ l, Holds ρ (f x)
 back : ∀ ρ, ∀ x ∈ l, Holds ρ (f x) → Holds ρ pc
 one : ∀ ρ, ∀ x ∈ l, ∀ y ∈ l, Holds ρ (f x) → Holds ρ (f y) → x = y
section
variable {α β : Type} {F : Fns} {f : α → List BE} {g : β → List BE} {pc : List BE}
theorem fCells_eq {β : Type} : ∀ (l : List SV) (k : List SV → β), fCells l k = k l
 | [], k => rfl
 | v :: l, k => by simp only [fCells, fSV_eq, fCells_eq l]
theorem fWs_eq {β : Type} : ∀ (l : SHeap) (k : SHeap → β), fWs l k = k l
 | [], k => rfl
 | (n, o) :: l, k => by cases o <;> simp only [fWs, fCells_eq, fWs_eq l]
theorem PcOk.single (x : α) (h : f x = pc) : PcOk F f pc [x] :=
 ⟨fun ρ _ hp => ⟨x, by simp, h ▸ hp⟩, fun ρ y hy hp => by simp at hy; subst hy; exact h ▸ hp, fun ρ y hy z hz _ _ => by simp at hy hz; rw [hy, hz]⟩
theorem PcOk.split {c : BE} {l m : List α} (h1 : PcOk F f (c :: pc) l) (h2 : PcOk F f (.not c :: pc) m) : PcOk F f pc (l ++ m) := by
 refine ⟨?_, ?_, ?_⟩
 ·intro ρ gd hp
  cases hc : c.den ρ with
  | true => obtain ⟨x, hx, hh⟩ := h1.some ρ gd (hp.cons hc); exact ⟨x, List.mem_append.2 (.inl hx), hh⟩
  | false => obtain ⟨x, hx, hh⟩ := h2.some ρ gd (hp.cons (by simp [den_not, hc])); exact ⟨x, List.mem_append.2 (.inr hx), hh⟩
 ·intro ρ x hx hh
  rcases List.mem_append.1 hx with hx | hx
  ·exact (h1.back ρ x hx hh).tail
  ·exact (h2.back ρ x hx hh).tail
 ·intro ρ x hx y hy h3 h4
  rcases List.mem_append.1 hx with hx | hx <;> rcases List.mem_append.1 hy with hy | hy
  ·exact h1.one ρ x hx y hy h3 h4
  ·have a := (h1.back ρ x hx h3).head
   have b := (h2.back ρ y hy h4).head
   simp [den_not, a] at b
  ·have a := (h2.back ρ x hx h3).head
   have b := (h1.back ρ y hy h4).head
   simp [den_not, b] at a
  ·exact h2.one ρ x hx y hy h3 h4
theorem PcOk.bind {l : List α} {k : α → List β} (h : PcOk F f pc l) (hk : ∀ x ∈ l, PcOk F g (f x) (k x)) : PcOk F g pc (l.flatMap k) := by
 refine ⟨?_, ?_, ?_⟩
 ·intro ρ gd hp
  obtain ⟨x, hx, hh⟩ := h.some ρ gd hp
  obtain ⟨y, hy, h2⟩ := (hk x hx).some ρ gd hh
  exact ⟨y, List.mem_flatMap.2 ⟨x, hx, hy⟩, h2⟩
 ·intro ρ y hy hh
  obtain ⟨x, hx, hy⟩ := List.mem_flatMap.1 hy
  exact h.back ρ x hx ((hk x hx).back ρ y hy hh)
 ·intro ρ y hy z hz h1 h2
  obtain ⟨x, hx, hy⟩ := List.mem_flatMap.1 hy
  obtain ⟨x', hx', hz⟩ := List.mem_flatMap.1 hz
  have := h.one ρ x hx x' hx' ((hk x hx).back ρ y hy h1) ((hk x' hx').back ρ z hz h2)
  subst this
  exact (hk x hx).one ρ y hy z hz h1 h2
end
theorem RR.app_leaves {a b : RR} {l : List RLeaf} (h : RR.app a b = .leaves l) : ∃ l1 l2, a = .leaves l1 ∧ b = .leaves l2 ∧ l = l1 ++ l2 := by
 cases a <;> cases b <;> simp [RR.app] at h
 exact ⟨_, _, rfl, rfl, h.symm⟩
theorem Out.app_leaves {a b : Out} {l : List Leaf} (h : Out.app a b = .leaves l) : ∃ l1 l2, a = .leaves l1 ∧ b = .leaves l2 ∧ l = l1 ++ l2 := by
 cases a <;> cases b <;> simp [Out.app] at h
 exact ⟨_, _, rfl, rfl, h.symm⟩
def RR.lv : RR → List RLeaf
 | .leaves l => l
 | .fail _ => []
def Out.lv : Out → List Leaf
 | .leaves l => l
 | .fail _ _ => []
theorem overLeaves_ok {k : Leaf → RR} {ls : List Leaf} : ∀ {l : List RLeaf}, overLeaves k ls = .leaves l → (∀ x ∈ ls, k x = .leaves (k x).lv) ∧ l = ls.flatMap (fun x => (k x).lv) := by
  induction ls with
  | nil => intro l h; simp [overLeaves] at h; subst h; exact ⟨by simp, by simp⟩
  | cons x ls ih =>
    intro l h
    simp only [overLeaves] at h
    obtain ⟨l1, l2, h1, h2, rfl⟩ := RR.app_leaves h
    obtain ⟨hg, rfl⟩ := ih h2
    refine ⟨?_, ?_⟩
    · intro y hy
      rcases List.mem_cons.1 hy with rfl | hy
      · rw [h1]; rfl
      · exact hg y hy
    · simp [h1, RR.lv]
theorem overCfgs_ok {k : Cfg → Out} {ls : List Cfg} : ∀ {l : List Leaf}, overCfgs k ls = .leaves l → (∀ x ∈ ls, k x = .leaves (k x).lv) ∧ l = ls.flatMap (fun x => (k x).lv) := by
  induction ls with
  | nil => intro l h; simp [overCfgs] at h; subst h; exact ⟨by simp, by simp⟩
  | cons x ls ih =>
    intro l h
    simp only [overCfgs] at h
    obtain ⟨l1, l2, h1, h2, rfl⟩ := Out.app_leaves h
    obtain ⟨hg, rfl⟩ := ih h2
    refine ⟨?_, ?_⟩
    · intro y hy
      rcases List.mem_cons.1 hy with rfl | hy
      · rw [h1]; rfl
      · exact hg y hy
    · simp [h1, Out.lv]
inductive Trace (T : Tab) (sub : Cfg → Out) (ops : List Oper) (ms : List Nat) : List Oper → Nat → List BE → Slots → SHeap → Nat → Option PJ → List Eff → List BE → Slots → SHeap → Nat → Option PJ → Prop
 | nil {i pc sl h nx pj} : Trace T sub ops ms [] i pc sl h nx pj [] pc sl h nx pj
 | dum {o l i pc sl h nx pj effs pc' sl' h' nx' pj'} : behindP pj ((nth ms i).getD 0) = true →
   Trace T sub ops ms l (i + 1) pc sl h nx pj effs pc' sl' h' nx' pj' →
   Trace T sub ops ms (o :: l) i pc sl h nx pj (noEff nx :: effs) pc' sl' h' nx' pj'
 | skip {o l i pc sl h nx pj effs pc' sl' h' nx' pj'} : wantedS pc ops sl o = .skip →
   Trace T sub ops ms l (i + 1) pc (putD sl o.dst (.tup [])) h nx pj effs pc' sl' h' nx' pj' →
   Trace T sub ops ms (o :: l) i pc sl h nx pj ({ dst := o.dst, val := .tup [], touch := [], writes := [], gone := [], made := [], lo := nx, hi := nx } :: effs) pc' sl' h' nx' pj'
 | run {o l i pc sl h nx pj effs pc' sl' h' nx' pj'} {F : List Nat} {ls : List Leaf} {lf : Leaf} {e : Eff} : wantedS pc ops sl o = .run →
   aloneP T sub pc (keepH F h) nx sl o = .inl (.leaves ls) → lf ∈ ls → effOf o F h nx lf = some e → panV lf.val = none →
   Trace T sub ops ms l (i + 1) lf.pc (putD sl o.dst lf.val) (e.made ++ rmAll (upAll h e.writes) e.gone) lf.next pj effs pc' sl' h' nx' pj' →
   Trace T sub ops ms (o :: l) i pc sl h nx pj (e :: effs) pc' sl' h' nx' pj'
 | pan {o l i pc sl h nx effs pc' sl' h' nx' pj'} {F : List Nat} {ls : List Leaf} {lf : Leaf} {e : Eff} {v : SV} : wantedS pc ops sl o = .run →
   aloneP T sub pc (keepH F h) nx sl o = .inl (.leaves ls) → lf ∈ ls → effOf o F h nx lf = some e → panV lf.val = some v →
   Trace T sub ops ms l (i + 1) lf.pc sl h lf.next (some { j := i, e := e, v := v }) effs pc' sl' h' nx' pj' →
   Trace T sub ops ms (o :: l) i pc sl h nx none (noEff lf.next :: effs) pc' sl' h' nx' pj'
 | more {l i c pc sl h nx pj effs pc' sl' h' nx' pj'} : Trace T sub ops ms l i (c :: pc) sl h nx pj effs pc' sl' h' nx' pj' → Trace T sub ops ms l i pc sl h nx pj effs pc' sl' h' nx' pj'
def SubPc (F : Fns) (sub : Cfg → Out) : Prop := ∀ C ls, sub C = .leaves ls → PcOk F Leaf.pc C.pc ls
theorem PcOk.more {α : Type} {F : Fns} {f : α → List BE} {pc qs : List BE} (x : α) (h : f x = qs ++ pc) (hq : ∀ ρ, Gd F ρ → Holds ρ pc → Holds ρ qs) : PcOk F f pc [x] :=
 ⟨fun ρ g hp => ⟨x, by simp, by rw [h]; exact fun p hm => (List.mem_append.1 hm).elim (hq ρ g hp p) (hp p)⟩, fun ρ y hy hp => by simp at hy; subst hy; rw [h] at hp; exact fun p hm => hp p (List.mem_append.2 (.inr hm)), fun ρ y hy z hz _ _ => by simp at hy hz; rw [hy, hz]⟩
theorem calm_ok : ∀ {l : List Leaf}, calm l = true → ∀ x ∈ l, panV x.val = none
 | [], _, x, hx => by simp at hx
 | y :: l, h, x, hx => by
  simp only [calm] at h
  split at h
  ·rename_i h1
   rcases List.mem_cons.1 hx with rfl | hx
   ·exact h1
   ·exact calm_ok h x hx
  ·cases h
theorem calmV_ok {v : SV} {o : Out} {ls : List Leaf} (h : calmV v o = .leaves ls) : panV v = none ∧ o = .leaves ls := by
 unfold calmV at h
 split at h
 ·rename_i h1; exact ⟨h1, h⟩
 ·cases h
theorem aloneP_pc {T : Tab} {sub : Cfg → Out} (hs : SubPc T.orac.F sub) (hP : PostsOk T.orac) {pc : List BE} {hF : SHeap} {nx : Nat} {sl : Slots} {o : Oper} {ls : List Leaf} (h : aloneP T sub pc hF nx sl o = .inl (.leaves ls)) : PcOk T.orac.F Leaf.pc pc ls := by
 unfold aloneP at h
 split at h
 ·simp only [Sum.inl.injEq] at h
  obtain ⟨_, h⟩ := calmV_ok h
  cases h; exact .single _ rfl
 ·split at h
  ·split at h
   ·split at h
    ·split at h
     ·simp only [Sum.inl.injEq] at h
      obtain ⟨_, h⟩ := calmV_ok h
      cases h; exact .single _ rfl
     ·simp only [Sum.inl.injEq] at h
      obtain ⟨_, h⟩ := calmV_ok h
      cases h; exact .single _ rfl
     ·cases h
    ·split at h
     ·rename_i u hu
      cases h
      exact .more _ rfl (fun ρ g hp => findX_post g hP hp hu)
     ·cases h
     ·simp only [Sum.inl.injEq] at h
      exact hs _ _ h
   ·cases h
  ·cases h
 ·cases h
 ·cases h
 ·cases h
theorem regGo_ok {T : Tab} {sub : Cfg → Out} (hs : SubPc T.orac.F sub) (hP : PostsOk T.orac) {ops : List Oper} {ms : List Nat} : ∀ (k : Nat) (l : List Oper) (i : Nat) (pc : List BE) (sl : Slots) (h : SHeap) (nx : Nat) (effs : List Eff) (pj : Option PJ) (rls : List RLeaf),
    regGo T sub ops ms k l i pc sl h nx effs pj = .leaves rls →
    PcOk T.orac.F RLeaf.pc pc rls ∧ ∀ r ∈ rls, ∃ effs', r.effs = effs.reverse ++ effs' ∧ Trace T sub ops ms l i pc sl h nx pj effs' r.pc r.sl r.heap r.next r.pj := by
  intro k
  induction k with
  | zero => intro l i pc sl h nx effs pj rls hh; simp [regGo] at hh
  | succ k ih =>
    intro l i pc sl h nx effs pj rls hh
    have hsplit : ∀ (o : Oper) (l : List Oper) (c : BE), (fBE c fun c => RR.app (regGo T sub ops ms k (o :: l) i (c :: pc) sl h nx effs pj) (regGo T sub ops ms k (o :: l) i (.not c :: pc) sl h nx effs pj)) = .leaves rls →
        PcOk T.orac.F RLeaf.pc pc rls ∧ ∀ r ∈ rls, ∃ effs', r.effs = effs.reverse ++ effs' ∧ Trace T sub ops ms (o :: l) i pc sl h nx pj effs' r.pc r.sl r.heap r.next r.pj := by
      intro o l c hc
      rw [fBE_eq] at hc
      obtain ⟨l1, l2, h1, h2, rfl⟩ := RR.app_leaves hc
      obtain ⟨p1, t1⟩ := ih _ _ _ _ _ _ _ _ _ h1
      obtain ⟨p2, t2⟩ := ih _ _ _ _ _ _ _ _ _ h2
      refine ⟨p1.split p2, ?_⟩
      intro r hr
      rcases List.mem_append.1 hr with hr | hr
      · obtain ⟨e, he, ht⟩ := t1 r hr; exact ⟨e, he, .more ht⟩
      · obtain ⟨e, he, ht⟩ := t2 r hr; exact ⟨e, he, .more ht⟩
    cases l with
    | nil =>
      simp only [regGo, RR.leaves.injEq] at hh
      subst hh
      refine ⟨.single _ rfl, ?_⟩
      intro r hr
      simp at hr
      subst hr
      exact ⟨[], by simp, .nil⟩
    | cons o l =>
      simp only [regGo] at hh
      split at hh
      · rename_i hb
        obtain ⟨p1, t1⟩ := ih _ _ _ _ _ _ _ _ _ hh
        refine ⟨p1, ?_⟩
        intro r hr
        obtain ⟨e, he, ht⟩ := t1 r hr
        exact ⟨_ :: e, by simpa using he, .dum hb ht⟩
      split at hh
      · cases hh
      · exact hsplit o l _ hh
      · rename_i hw
        obtain ⟨p1, t1⟩ := ih _ _ _ _ _ _ _ _ _ hh
        refine ⟨p1, ?_⟩
        intro r hr
        obtain ⟨e, he, ht⟩ := t1 r hr
        exact ⟨_ :: e, by simpa using he, .skip hw ht⟩
      · rename_i hw
        rw [fL_eq] at hh
        generalize hF : (if isPure o.op then [] else touchOf h sl o) = F at hh
        split at hh
        · exact hsplit o l _ hh
        · cases hh
        · rename_i ls hls
          obtain ⟨kk, hkk, hsome, hpan, hpan2, hnone⟩ : ∃ kk : Leaf → RR, overLeaves kk ls = .leaves rls ∧
              (∀ x e, effOf o F h nx x = some e → panV x.val = none → kk x = regGo T sub ops ms k l (i + 1) x.pc (putD sl o.dst x.val) (e.made ++ rmAll (upAll h e.writes) e.gone) x.next (e :: effs) pj) ∧
              (∀ x e v, effOf o F h nx x = some e → panV x.val = some v → pj = none → kk x = regGo T sub ops ms k l (i + 1) x.pc sl h x.next (noEff x.next :: effs) (some { j := i, e := e, v := v })) ∧
              (∀ x e v q, effOf o F h nx x = some e → panV x.val = some v → pj = some q → kk x = .fail 215) ∧ (∀ x, effOf o F h nx x = none → kk x = .fail 211) :=
            ⟨_, hh, fun x e he hp => by simp only [he, hp, fWs_eq, fL_eq], fun x e v he hp hq => by simp only [he, hp, hq], fun x e v q he hp hq => by simp only [he, hp, hq], fun x he => by simp only [he]⟩
          obtain ⟨hk, rfl⟩ := overLeaves_ok hkk
          have hpc := aloneP_pc hs hP hls
          have hx : ∀ x ∈ ls, PcOk T.orac.F RLeaf.pc x.pc (kk x).lv ∧ ∀ r ∈ (kk x).lv, ∃ effs', r.effs = effs.reverse ++ effs' ∧ Trace T sub ops ms (o :: l) i pc sl h nx pj effs' r.pc r.sl r.heap r.next r.pj := by
            intro x hx
            have h1 := hk x hx
            cases he : effOf o F h nx x with
            | none => rw [hnone x he] at h1; cases h1
            | some e =>
              cases hv : panV x.val with
              | none =>
                rw [hsome x e he hv] at h1
                obtain ⟨q1, q2⟩ := ih _ _ _ _ _ _ _ _ _ h1
                rw [← hsome x e he hv] at q1 q2
                refine ⟨q1, fun r hr => ?_⟩
                obtain ⟨e', he', ht⟩ := q2 r hr
                exact ⟨e :: e', by simpa using he', .run hw hls hx he hv ht⟩
              | some v =>
                cases hq : pj with
                | some q => rw [hpan2 x e v q he hv hq] at h1; cases h1
                | none =>
                  have h3 := hpan x e v he hv hq
                  rw [h3] at h1
                  obtain ⟨q1, q2⟩ := ih _ _ _ _ _ _ _ _ _ h1
                  rw [← h3] at q1 q2
                  refine ⟨q1, fun r hr => ?_⟩
                  obtain ⟨e', he', ht⟩ := q2 r hr
                  exact ⟨noEff x.next :: e', by simpa using he', .pan hw hls hx he hv ht⟩
          refine ⟨hpc.bind (fun x hxm => (hx x hxm).1), ?_⟩
          intro r hr
          obtain ⟨x, hxm, hr⟩ := List.mem_flatMap.1 hr
          exact (hx x hxm).2 r hr
end Go.Proofs.Ythenenacmiiphaa.Sx
namespace Go.Proofs.Ythenenacmiiphaa.Sx
open Go

def SItem.den (ρ : Rho) : SItem → Item
 | .code c => .code c
 | .inBlock id => .inBlock id
 | .inLoop b => .inLoop b
 | .inScope b => .inScope b
 | .inRegion ops rest => .inRegion ops rest
 | .inRange n => .inRangeFunc (ρ.a n)
 | .endRange n => .endRangeFunc (ρ.a n)
 | .beginRound => .beginRound
def SItem.okI (N : Nat) : SItem → Prop
 | .code c => codeOk c = true
 | .inLoop c => codeOk c = true
 | .inScope c => codeOk c = true
 | .inRange n => n < N
 | .endRange n => n < N
 | _ => True
def defsOf (ρ : Rho) (ds : List Nat) : List Deferred := ds.map fun n => { target := .collected (ρ.a n), args := #[] }
noncomputable def dcOf (ρ : Rho) (ds : List (Nat × (List SV × List SV))) : List Deferred := ds.map fun d => { target := .fn (.func d.1) (SV.denL ρ d.2.2).toArray, args := (SV.denL ρ d.2.1).toArray }
noncomputable def dfs (ρ : Rho) (s : SFrame) : List Deferred := defsOf ρ s.defers ++ dcOf ρ s.md.dcs
def rk (ρ : Rho) (s : SFrame) : RK := ⟨s.round.map ρ.a, if s.md.dfd then .deferred else .normal⟩
noncomputable def ssDen (ρ : Rho) : SS → FrameMode
 | .run => .run
 | .ret => .returning
 | .pan v r => .panicking [{ v := v.den ρ, recovered := r }]
structure NamesM (N : Nat) (m : SM) : Prop where
 pan : ∀ v r, m.st = .pan v r → NamesV N v
 dcs : ∀ d ∈ m.dcs, NamesL N d.2.1 ∧ NamesL N d.2.2
structure FrameR (ρ : Rho) (N : Nat) (s : SFrame) (f : Frame) : Prop where
 eq : f = { fr s.fn f.tmps (s.todo.map (SItem.den ρ)) (dfs ρ s) (rk ρ s) with mode := ssDen ρ s.md.st }
 slots : SlotsR ρ s.tmps f.tmps
 names : SNames N s.tmps
 items : ∀ i ∈ s.todo, i.okI N
 defs : ∀ n ∈ s.defers, n < N
 rnd : ∀ n, s.round = some n → n < N
 rr : s.md.st = .ret → s.round = none
 mn : NamesM N s.md
inductive FramesR (ρ : Rho) (N : Nat) : List SFrame → List Frame → Prop
 | nil : FramesR ρ N [] []
 | cons {s f ss fs} : FrameR ρ N s f → FramesR ρ N ss fs → FramesR ρ N (s :: ss) (f :: fs)
def bot (t : SFrame) : List SFrame → FuncId
 | [] => t.fn
 | s :: ss => bot s ss
structure CfgR (ρ : Rho) (b0 : World) (C : Cfg) (w : World) (f : Frame) (fs : List Frame) : Prop where
 top : FrameR ρ C.next C.top f
 rest : FramesR ρ C.next C.rest fs
 heap : HeapR ρ b0 C.heap w
 names : HNames C.next C.heap
 pc : Holds ρ C.pc
theorem NamesM.le {N M : Nat} (hm : N ≤ M) {m : SM} (h : NamesM N m) : NamesM M m :=
 ⟨fun v r e n hn => Nat.lt_of_lt_of_le (h.pan v r e n hn) hm, fun d hd => ⟨fun v hv n hn => Nat.lt_of_lt_of_le ((h.dcs d hd).1 v hv n hn) hm, fun v hv n hn => Nat.lt_of_lt_of_le ((h.dcs d hd).2 v hv n hn) hm⟩⟩
theorem dcOf_agr {ρ ρ' : Rho} {N M : Nat} (g : Agr ρ ρ' N M) : ∀ {ds : List (Nat × (List SV × List SV))}, (∀ d ∈ ds, NamesL N d.2.1 ∧ NamesL N d.2.2) → dcOf ρ' ds = dcOf ρ ds := by
 intro ds h
 apply List.map_congr_left
 intro d hd
 obtain ⟨h1, h2⟩ := h d hd
 rw [SV.denL_agr g d.2.1 (fun n hn => .inl ((NamesL.iff.1 h1) n hn)), SV.denL_agr g d.2.2 (fun n hn => .inl ((NamesL.iff.1 h2) n hn))]
theorem ssDen_agr {ρ ρ' : Rho} {N M : Nat} (g : Agr ρ ρ' N M) {m : SM} (h : NamesM N m) : ssDen ρ' m.st = ssDen ρ m.st := by
 have hp := h.pan
 cases hs : m.st with
 | run => rfl
 | ret => rfl
 | pan v r => simp only [ssDen]; rw [SV.den_agr g v (fun n hn => .inl (hp v r hs n hn))]
theorem dfs_agr {ρ ρ' : Rho} {N M : Nat} (g : Agr ρ ρ' N M) {s : SFrame} (hd : ∀ n ∈ s.defers, n < N) (h : NamesM N s.md) : dfs ρ' s = dfs ρ s := by
 unfold dfs
 rw [dcOf_agr g h.dcs]
 have : defsOf ρ' s.defers = defsOf ρ s.defers := List.map_congr_left fun n hn => by rw [g.a n (.inl (hd n hn))]
 rw [this]
theorem rk_agr {ρ ρ' : Rho} {N M : Nat} (g : Agr ρ ρ' N M) {s : SFrame} (hr : ∀ n, s.round = some n → n < N) : rk ρ' s = rk ρ s := by
 unfold rk
 cases hq : s.round with
 | none => rfl
 | some n => simp [g.a n (.inl (hr n hq))]
theorem FrameR.agr {ρ ρ' : Rho} {N M : Nat} (g : Agr ρ ρ' N M) (hm : N ≤ M) {s : SFrame} {f : Frame} (h : FrameR ρ N s f) : FrameR ρ' M s f := by
 refine ⟨?_, h.slots.agr g (fun i v hv n hn => .inl (h.names i v hv n hn)), h.names.le hm, ?_, fun n hn => Nat.lt_of_lt_of_le (h.defs n hn) hm, fun n hn => Nat.lt_of_lt_of_le (h.rnd n hn) hm, h.rr, h.mn.le hm⟩
 ·rw [h.eq]
  have e1 : s.todo.map (SItem.den ρ') = s.todo.map (SItem.den ρ) := by
   apply List.map_congr_left
   intro i hi
   have := h.items i hi
   cases i <;> simp [SItem.den, SItem.okI] at this ⊢
   ·exact g.a _ (.inl this)
   ·exact g.a _ (.inl this)
  simp only [e1, dfs_agr g h.defs h.mn, rk_agr g h.rnd, ssDen_agr g h.mn]
 ·intro i hi
  have := h.items i hi
  cases i <;> simp [SItem.okI] at this ⊢ <;> first | exact this | exact Nat.lt_of_lt_of_le this hm
theorem FramesR.agr {ρ ρ' : Rho} {N M : Nat} (g : Agr ρ ρ' N M) (hm : N ≤ M) {ss : List SFrame} {fs : List Frame} (h : FramesR ρ N ss fs) : FramesR ρ' M ss fs := by
  induction h with
  | nil => exact .nil
  | cons h _ ih => exact .cons (h.agr g hm) ih
noncomputable def endS (ρ : Rho) (v : SV) : Ending :=
 match panV v with
 | none => .returned (v.den ρ)
 | some u => .panicked [{ v := u.den ρ, recovered := false }]
theorem endS_ret {ρ : Rho} {v : SV} (h : panV v = none) : endS ρ v = .returned (v.den ρ) := by unfold endS; rw [h]
theorem endS_pan {ρ : Rho} {v u : SV} (h : panV v = some u) : endS ρ v = .panicked [{ v := u.den ρ, recovered := false }] := by unfold endS; rw [h]
theorem comes_endS {P : Program} {m m' : Machine} {ρ : Rho} {v : SV} (h : Steps P m m') : Comes P m m' (endS ρ v) := by
 unfold endS
 split <;> exact h
theorem panV_some {v u : SV} (h : panV v = some u) : v = mkPan u := by
 unfold panV at h
 split at h
 ·split at h
  ·rename_i t x hb
   have : t = 4294967295 := by simpa using hb
   cases h
   rw [this]; rfl
  ·cases h
 ·cases h
def topOk : SV → Bool
 | .opq _ => false
 | _ => true
theorem topOk_flat2 {v : SV} (h : v.flat2 = true) : topOk v = true := by
 cases v <;> first | rfl | cases h
theorem panV_sb {pc : List BE} {S : Sub} {v : SV} (h : topOk v = true) : panV (v.sb pc S) = (panV v).map (SV.sb pc S) := by
 cases v <;> first | rfl | (cases h; done) | skip
 rename_i t x
 simp only [SV.sb, panV]
 split <;> rfl
theorem endS_sb {pc : List BE} {S : Sub} {ρ1 ρ2 : Rho} {v : SV} (h : topOk v = true) (hv : (v.sb pc S).den ρ2 = v.den ρ1) : endS ρ2 (v.sb pc S) = endS ρ1 v := by
 cases hp : panV v with
 | none => rw [endS_ret (by rw [panV_sb h, hp]; rfl), endS_ret hp, hv]
 | some u =>
  have hp2 : panV (v.sb pc S) = some (u.sb pc S) := by rw [panV_sb h, hp]; rfl
  rw [endS_pan hp2, endS_pan hp]
  rw [panV_some hp2, panV_some hp] at hv
  simp only [mkPan, SV.den, Value.iface.injEq, true_and] at hv
  rw [hv]
theorem endS_den {ρ1 ρ2 : Rho} {v u : SV} (h : (panV v).isSome = (panV u).isSome) (hv : v.den ρ1 = u.den ρ2) : endS ρ1 v = endS ρ2 u := by
 cases hp : panV v with
 | none =>
  cases hq : panV u with
  | none => rw [endS_ret hp, endS_ret hq, hv]
  | some y => rw [hp, hq] at h; cases h
 | some x =>
  cases hq : panV u with
  | none => rw [hp, hq] at h; cases h
  | some y =>
   rw [endS_pan hp, endS_pan hq]
   rw [panV_some hp, panV_some hq] at hv
   simp only [mkPan, SV.den, Value.iface.injEq, true_and] at hv
   rw [hv]
structure CtrOk (P : Program) (F : Fns) (c : Ctr) : Prop where
 flat : c.res.flat2 = true ∧ flatH c.heap = true ∧ freeL c.post = true ∧ freeL c.pre = true
 names : HNames c.cnt c.heap ∧ NamesV c.cnt c.res ∧ SV.namesL c.pat = [] ∧ ∀ p ∈ c.heap, p.1 < c.cnt
 call : ∀ (ρ : Rho) (w : World), Gd F ρ → RomsOk c.roms w ρ → Holds ρ c.pre → Calls P c.f (SV.denL ρ c.pat).toArray w fun e w' => ∃ ρ', Agr ρ ρ' 0 c.cnt ∧ e = endS ρ' c.res ∧ HeapR ρ' w c.heap w'
structure Fr (ρ : Rho) (h : SHeap) (w : World) (ρ' : Rho) (h' : SHeap) (w' : World) : Prop where
 size : w.heap.size ≤ w'.heap.size
 same : ∀ k, k < w.heap.size → (∀ n o, lk h n = some o → ρ.a n ≠ k) → w'.heap[k]? = w.heap[k]?
 dom : ∀ n o, lk h' n = some o → (∃ m p, lk h m = some p ∧ ρ'.a n = ρ.a m) ∨ w.heap.size ≤ ρ'.a n
theorem Fr.refl (ρ : Rho) (h : SHeap) (w : World) : Fr ρ h w ρ h w := ⟨Nat.le_refl _, fun _ _ _ => rfl, fun n o hl => .inl ⟨n, o, hl, rfl⟩⟩
theorem Fr.trans {ρ ρ1 ρ2 : Rho} {h h1 h2 : SHeap} {w w1 w2 : World} (a : Fr ρ h w ρ1 h1 w1) (b : Fr ρ1 h1 w1 ρ2 h2 w2) : Fr ρ h w ρ2 h2 w2 := by
 refine ⟨Nat.le_trans a.size b.size, ?_, ?_⟩
 ·intro k hk hne
  rw [b.same k (Nat.lt_of_lt_of_le hk a.size) ?_, a.same k hk hne]
  intro n o hl he
  rcases a.dom n o hl with ⟨m, p, h3, h4⟩ | h3
  ·exact hne m p h3 (h4 ▸ he)
  ·omega
 ·intro n o hl
  rcases b.dom n o hl with ⟨m, p, h3, h4⟩ | h3
  ·rcases a.dom m p h3 with ⟨m', p', h5, h6⟩ | h5
   ·exact .inl ⟨m', p', h5, h4.trans h6⟩
   ·exact .inr (by rw [h4]; exact h5)
  ·exact .inr (Nat.le_trans a.size h3)
theorem Fr.of_move {ρ ρ' : Rho} {b0 : World} {h h' : SHeap} {nx nx' : Nat} {w w' : World} (hn : HNames nx h) (m : Move ρ ρ' b0 h h' nx nx' w w') : Fr ρ h w ρ' h' w' := by
 refine ⟨m.size, m.same, fun n o hl => ?_⟩
 rcases m.dom n o hl with ⟨p, hp⟩ | ⟨_, _, h3 | ⟨q, p, hq, h3⟩⟩
 ·exact .inl ⟨n, p, hp, m.agr.a n (.inl (hn n p hp).1)⟩
 ·exact .inr h3
 ·exact .inl ⟨q, p, hq, h3⟩
structure MtrOk (P : Program) (F : Fns) (c : Mtr) : Prop where
 hp : plainH c.hp = true ∧ plainH c.hq = true
 top : topOk c.res = true
 names : HNames c.cnt c.hq ∧ NamesV c.cnt c.res ∧ (∀ p ∈ c.hq, p.1 < c.cnt) ∧ c.cnt0 ≤ c.cnt ∧ (∀ n o, lk c.hq n = some o → n < c.cnt0 → ∃ p, lk c.hp n = some p) ∧ (∀ n o, lk c.hp n = some o → n < c.cnt0)
 call : ∀ (ρ : Rho) (b0 w : World), Gd F ρ → RomsOk c.roms b0 ρ → HeapR ρ b0 c.hp w → Holds ρ c.pre → Calls P c.f (SV.denL ρ c.pat).toArray w fun e w' => ∃ ρ', Agr ρ ρ' c.cnt0 c.cnt ∧ e = endS ρ' c.res ∧ HeapR ρ' b0 c.hq w' ∧ Fr ρ c.hp w ρ' c.hq w'
structure OracOk (P : Program) (b0 : World) (q : Orc) (ρ : Rho) : Prop where
 l : ∀ o ∈ q.l, (SV.namesL o.args = [] ∧ o.yes.names = [] ∧ o.no.names = []) ∧
  ∀ W, Grew b0 W → Calls P o.f (SV.denL ρ o.args).toArray W fun e w' => e = .returned ((if o.c.den ρ then o.yes else o.no).den ρ) ∧ Grew W w'
 rom : RomOk q b0 ρ
 F : ρ.z.F = q.F
 ctr : ∀ c ∈ q.ctr, CtrOk P q.F c
 mem : ∀ c ∈ q.mem, MtrOk P q.F c
theorem RomOk.eqz {l : Orc} {b0 : World} {ρ ρ' : Rho} (h : RomOk l b0 ρ) (g : ρ'.z = ρ.z) : RomOk l b0 ρ' := by
 refine ⟨by rw [g]; exact h.1, ?_⟩
 intro r esz cl hr
 have := h.2 r esz cl hr
 rw [g]; exact this
theorem OracOk.agr {P : Program} {b0 : World} {l : Orc} {ρ ρ' : Rho} {lo hi : Nat} (g : Agr ρ ρ' lo hi) (h : OracOk P b0 l ρ) : OracOk P b0 l ρ' := by
 refine ⟨?_, h.rom.eqz g.z, by rw [g.z]; exact h.F, h.ctr, h.mem⟩
 intro o ho
 obtain ⟨⟨n1, n2, n3⟩, hc⟩ := h.l o ho
 refine ⟨⟨n1, n2, n3⟩, fun W hW => ?_⟩
 have e1 := SV.denL_agr g o.args (by rw [n1]; simp)
 have e2 : (if o.c.den ρ' then o.yes else o.no).den ρ' = (if o.c.den ρ then o.yes else o.no).den ρ := by
  rw [BE.den_agr g]
  apply SV.den_agr g
  split <;> simp [n2, n3]
 rw [e1, e2]
 exact hc W hW
end Go.Proofs.Ythenenacmiiphaa.Sx
namespace Go.Proofs.Ythenenacmiiphaa.Sx
open Go
section
variable {P : Program} {T : Tab} {ρ : Rho} {b0 : World} {pc : List BE} {h : SHeap} {nx : Nat} {w : World}
structure SlOk (ρ : Rho) (w : World) (sz : Nat) (v : Value) (l : LV) : Prop where
 den : ∃ base cap, v = .slice base l.length cap ∧ l.length ≤ cap ∧ (0 < l.length → ∃ b o, base = some ⟨b, o, none⟩ ∧ b < w.heap.size ∧ ∀ (i c : Nat) (e : List Value) (u : Value), l[i]? = some e → e[c]? = some u → w.cell? ⟨b, o + i * sz + c, none⟩ = some u)
theorem cell_block {w : World} {a : Addr} {v : Value} (h : w.cell? a = some v) (hs : a.spot = none) : a.block < w.heap.size := by
 obtain ⟨b, o, s⟩ := a
 simp only at hs
 subst hs
 exact World.block_lt_of_cell? w _ h
theorem slBlock (hρ : ρ.Ok) (hp : Holds ρ pc) (hn : HNames nx h) (H : HeapR ρ b0 h w) {sz k b o cap : Nat} {y : SV} {cs : List SV} (hc : capOk pc y = true) (hsrc : srcCells pc h sz y = some (k, cs)) (hy : y.den ρ = .slice (some ⟨b, o, none⟩) k cap) : b < w.heap.size := by
 unfold srcCells at hsrc
 split at hsrc
 ·split at hsrc
  ·rename_i l hl
   obtain ⟨p, hlk, hcs⟩ := ocs_some hl
   simp only [SV.den, Value.slice.injEq, Option.some.injEq, Addr.mk.injEq] at hy
   rw [← hy.1.1]; exact HeapR.lt H hlk
  ·cases hsrc
 ·split at hsrc
  ·rename_i l hl
   obtain ⟨p, hlk, hcs⟩ := ocs_some hl
   simp only [SV.den, Value.slice.injEq, Option.some.injEq, Addr.mk.injEq] at hy
   rw [← hy.1.1]; exact HeapR.lt H hlk
  ·cases hsrc
 ·simp [SV.den] at hy
 ·cases hc
 ·cases hsrc
theorem slOk (P : Program) (hρ : ρ.Ok) (hp : Holds ρ pc) (hn : HNames nx h) (hrom : RomsOk T.orac.rom b0 ρ) (H : HeapR ρ b0 h w) {sz : Nat} {y : SV} {s : LSrc} (hc : capOk pc y = true) (hs : srcL T.orac.rom pc h sz y = some s) : SlOk ρ w sz (y.den ρ) (s.l.den ρ) := by
 have hlt : ∀ n o, lk h n = some o → ∀ m ∈ o.names, m < nx := fun n o hl => (hn n o hl).2
 have hS := srcL_ok (P := P) hρ hp hn hrom H hs
 have hln := hS.lenOf w
 have len_of : ∀ base k cap, y.den ρ = .slice base k cap → k = (s.l.den ρ).length := by
  intro base k cap he
  rw [he] at hln
  simpa [Builtin.lenOf] using hln
 unfold srcL at hs
 split at hs
 ·rename_i r off len cap
  have hk := len_of _ _ _ (by simp only [SV.den]; rfl)
  obtain ⟨ks, hr, e1, e2, g1, g2, g3, hw⟩ := srcRom_ok hρ hp hrom hs
  obtain ⟨r0, r1, r2, r3, r4, r5⟩ := hrom.2 r sz ks hr
  obtain ⟨s1, s2, s3⟩ := s
  simp only at e1 e2 hw hk
  subst e1; subst e2
  refine ⟨_, _, by simp only [SV.den]; rw [hk], ?_, ?_⟩
  ·show (s2.den ρ).length ≤ _
   rw [← hk]
   cases cap with
   | none => simp only [capDen]; omega
   | some c =>
    simp only [capOk] at hc
    split at hc
    ·rename_i d4
     unfold capR at d4
     split at d4
     ·rename_i p l q m
      obtain ⟨h1, d4⟩ := ifb d4
      obtain ⟨h2, h3⟩ := ifb d4
      have k1 : p = r := by simpa using h1
      have k2 : q = r := by simpa using h2
      have k3 := IE.beq_eq _ _ h3
      subst k1; subst k2; subst k3
      simp only [capDen, IE.den, LE.den, lenV]
      omega
     ·cases d4
    ·split at hc
     ·rename_i d4
      have := dec_le hρ hp d4
      simp only [capDen]; omega
     ·cases hc
  ·intro hpos
   replace hpos : 0 < (s2.den ρ).length := hpos
   rw [← hk] at hpos
   obtain ⟨q1, q2⟩ := r3 (by omega)
   refine ⟨ρ.z.rb r, ρ.z.ro r + (off.den ρ).toNat * sz, by rw [q1, r1]; simp [addr_add'], Nat.lt_of_lt_of_le q2 H.g0.size, ?_⟩
   intro i c e u he hu
   replace he : (s2.den ρ)[i]? = some e := he
   rw [hw] at he
   have := rom_cell hrom H.g0 hr (win_get he) hu
   rw [Nat.add_mul, ← Nat.add_assoc] at this
   exact this
 ·rename_i n cn z off len cap
  have hk := len_of _ _ _ (by simp only [SV.den]; rfl)
  unfold srcRow at hs
  split at hs
  ·rename_i c tot ks u dn zs hlk
   obtain ⟨obj, ho, rest, lo, hi, rfl, hfz, hcp, hmx, hpos, hks, ht, htot⟩ := H.at_ n _ hlk
   split at hs
   ·rename_i hcn
    have hcn' : dn = cn := by simpa using hcn
    subst hcn'
    split at hs
    ·rename_i hz1
     split at hs
     ·rename_i hz2
      have hz1' : zs = z := by simpa using hz1
      have hz2' : zs = sz := by simpa using hz2
      subst hz1'; subst hz2'
      split at hs
      ·rename_i d1 d2 d3
       cases hs
       have g1 := dec_le hρ hp d1
       have g2 := dec_le hρ hp d2
       have g3 := dec_le hρ hp d3
       rw [lit_den, resI_den hρ hp] at g1
       rw [lit_den] at g2
       rw [addE_den, resI_den hρ hp, htot] at g3
       have hw : (winL c tot (resI pc off) len).den ρ = ((c.den ρ).drop (off.den ρ).toNat).take (len.den ρ).toNat := by
        rw [winL_den htot, resI_den hρ hp]
       have hAge : (c.den ρ).length ≤ ρ.a dn := by
        have hfl : (c.den ρ).flatten.length = (c.den ρ).length * zs := by rw [flat_len ht, hks]
        have : (c.den ρ).length * zs ≤ ρ.a dn * zs := by omega
        exact Nat.le_of_mul_le_mul_right this hpos
       simp only at hk ⊢
       refine ⟨_, _, by simp only [SV.den]; rw [hk], ?_, ?_⟩
       ·rw [← hk]
        cases cap with
        | none =>
         simp only [capDen]
         omega
        | some c =>
         simp only [capOk] at hc
         split at hc
         ·rename_i d4
          have := dec_le hρ hp d4
          simp only [capDen]; omega
         ·cases hc
       ·intro hpos
        refine ⟨ρ.a n, (off.den ρ).toNat * zs, rfl, HeapR.lt H hlk, ?_⟩
        intro i c e u he hu
        rw [hw] at he
        have := rowl_cell H hlk (win_get he) hu
        rw [Nat.add_mul] at this
        exact this
      ·cases hs
     ·cases hs
    ·cases hs
   ·cases hs
  ·cases hs
 ·simp [capOk] at hc
 ·cases hs
  exact ⟨none, 0, by simp [SV.den, LE.den], by simp [LE.den], fun hq => by simp [LE.den] at hq⟩
 ·cases hs
  exact ⟨_, _, by simp only [SV.den, LE.den, List.length_nil]; rfl, by simp [LE.den], fun hq => by simp [LE.den] at hq⟩
 ·rename_i hnr hns hnl hnn hne
  split at hs
  ·rename_i k cs hsrc
   have hS0 := src_ok (P := P) hρ hp hn hlt H hsrc
   -- the cells, wherever they lie
   have key : ∀ (b o cap : Nat), y.den ρ = .slice (some ⟨b, o, none⟩) k cap → k ≤ cap → (∀ j u, (SV.denL ρ cs)[j]? = some u → w.cell? ⟨b, o + j, none⟩ = some u) → SlOk ρ w sz (y.den ρ) (s.l.den ρ) := by
    intro b o cap hy hkc hcell
    have hk := len_of _ _ _ hy
    refine ⟨some ⟨b, o, none⟩, cap, by rw [hy, hk], by rw [← hk]; exact hkc, fun hpos => ?_⟩
    rw [← hk] at hpos
    split at hs
    ·omega
    ·split at hs
     ·rename_i ks hks
      split at hs
      ·rename_i l hl
       cases hs
       obtain ⟨q1, q2, q3⟩ := rowsL_ok hρ hp hrom.typed k cs l hS0.len hl
       have hkl : ks.length = sz := by
        rw [kindsOf_length hks, List.length_take, hS0.len]
        have : 1 * sz ≤ k * sz := Nat.mul_le_mul_right _ hpos
        omega
       have hget : ∀ (i c : Nat) (e : List Value) (u : Value), (l.den ρ)[i]? = some e → e[c]? = some u → w.cell? ⟨b, o + i * sz + c, none⟩ = some u := by
        intro i c e u he hu
        have hc2 : c < ks.length := by
         rw [← conf_length (q3 e (List.mem_of_getElem? he))]
         exact (List.getElem?_eq_some_iff.1 hu).1
        have := flat_get q3 he hc2
        rw [q2, hkl, hu] at this
        have := hcell _ _ this
        rwa [← Nat.add_assoc] at this
       refine ⟨b, o, rfl, ?_, hget⟩
       by_cases hsz : sz = 0
       ·exact slBlock hρ hp hn H hc hsrc hy
       ·obtain ⟨e, he⟩ : ∃ e, (l.den ρ)[0]? = some e := ⟨_, List.getElem?_eq_getElem (by omega)⟩
        have hel := conf_length (q3 e (List.mem_of_getElem? he))
        obtain ⟨u, hu⟩ : ∃ u, e[0]? = some u := ⟨_, List.getElem?_eq_getElem (by omega)⟩
        have := hget 0 0 e u he hu
        exact cell_block this rfl
      ·cases hs
     ·cases hs
   unfold srcCells at hsrc
   split at hsrc
   ·rename_i n off len cap
    split at hsrc
    ·rename_i l hl
     obtain ⟨o, hlk, hcs⟩ := ocs_some hl
     split at hsrc
     ·cases hsrc
      simp only [capOk] at hc
      refine key (ρ.a n) off cap (by simp only [SV.den]) (Nat.le_of_ble_eq_true hc) (fun j u hj => ?_)
      rw [denL_get, List.getElem?_take] at hj
      split at hj
      ·rw [List.getElem?_drop] at hj
       cases hq2 : l[off + j]? with
       | none => simp [hq2] at hj
       | some v => simp [hq2] at hj; rw [cell_at H hlk hcs hq2, hj]
      ·simp at hj
     ·cases hsrc
    ·cases hsrc
   ·rename_i n cn z off len
    split at hsrc
    ·rename_i l hl
     obtain ⟨o, hlk, hcs⟩ := ocs_some hl
     split at hsrc
     ·rename_i hz
      have hz' : z = sz := by simpa using hz
      subst hz'
      split at hsrc
      ·rename_i hle
       cases hsrc
       simp only [capOk] at hc
       cases hc
      ·cases hsrc
     ·cases hsrc
    ·cases hsrc
   ·exact absurd rfl hnn
   ·cases hc
   ·cases hsrc
  ·cases hs
theorem slOkH (P : Program) (hρ : ρ.Ok) (hp : Holds ρ pc) (hn : HNames nx h) (hrom : RomsOk T.orac.rom b0 ρ) (H : HeapR ρ b0 h w) {sz : Nat} {y : SV} {s : LSrc} (hc : capOkH pc h y = true) (hs : srcL T.orac.rom pc h sz y = some s) : SlOk ρ w sz (y.den ρ) (s.l.den ρ) := by
 unfold capOkH at hc
 split at hc
 ·rename_i n cn z off len
  split at hc
  ·rename_i cs t dn zs hlk
   obtain ⟨c1, hc⟩ := ifb hc
   obtain ⟨c2, c3⟩ := ifb hc
   have e1 : dn = cn := by simpa using c1
   have e2 : zs = z := by simpa using c2
   subst e1; subst e2
   have c3' := Nat.le_of_ble_eq_true c3
   obtain ⟨obj, ho, rest, lo, hi, rfl, hfz, hcp, hmx, hpos⟩ := H.at_ n _ hlk
   have hlt : ∀ n o, lk h n = some o → ∀ m ∈ o.names, m < nx := fun n o hl => (hn n o hl).2
   have hS := srcL_ok (P := P) hρ hp hn hrom H hs
   have hln := hS.lenOf w
   have hk : len = (s.l.den ρ).length := by
    simp only [SV.den] at hln
    simpa [Builtin.lenOf] using hln
   have hcap : off + len ≤ ρ.a dn := by
    have h1 : (off + len) * zs ≤ ρ.a dn * zs := by rw [Nat.add_mul]; omega
    exact Nat.le_of_mul_le_mul_right h1 hpos
   refine ⟨_, _, by simp only [SV.den]; rw [hk], by rw [← hk]; omega, fun hp0 => ⟨ρ.a n, off * zs, rfl, HeapR.lt H hlk, ?_⟩⟩
   have hsrc : srcCells pc h sz (.sl n dn zs off len) = some (len, (cs.drop (off * sz)).take (len * sz)) ∧ zs = sz := by
    unfold srcL at hs
    simp only [] at hs
    cases hq : srcCells pc h sz (.sl n dn zs off len) with
    | none => rw [hq] at hs; cases hs
    | some p =>
     unfold srcCells at hq
     simp only [ocs, hlk, SObj.cs] at hq
     split at hq
     ·rename_i hz
      have hz' : zs = sz := by simpa using hz
      split at hq
      ·cases hq; exact ⟨by rw [hz'], hz'⟩
      ·cases hq
     ·cases hq
   obtain ⟨hsrc, e3⟩ := hsrc
   subst e3
   unfold srcL at hs
   simp only [] at hs
   rw [hsrc] at hs
   simp only [] at hs
   rw [← hk] at hp0
   have hS0 := src_ok (P := P) hρ hp hn hlt H hsrc
   have hcell : ∀ j u, (SV.denL ρ ((cs.drop (off * zs)).take (len * zs)))[j]? = some u → w.cell? ⟨ρ.a n, off * zs + j, none⟩ = some u := by
    intro j u hj
    rw [denL_get, List.getElem?_take] at hj
    split at hj
    ·rw [List.getElem?_drop] at hj
     cases hq2 : cs[off * zs + j]? with
     | none => simp [hq2] at hj
     | some v => simp [hq2] at hj; rw [cell_at H hlk rfl hq2, hj]
    ·simp at hj
   intro i c e u he hu
   split at hs
   ·omega
   ·split at hs
    ·rename_i ks hks
     split at hs
     ·rename_i l hl
      cases hs
      obtain ⟨q1, q2, q3⟩ := rowsL_ok hρ hp hrom.typed len _ l hS0.len hl
      have hkl : ks.length = zs := by
       rw [kindsOf_length hks, List.length_take, hS0.len]
       have : 1 * zs ≤ len * zs := Nat.mul_le_mul_right _ hp0
       omega
      have hc2 : c < ks.length := by
       rw [← conf_length (q3 e (List.mem_of_getElem? he))]
       exact (List.getElem?_eq_some_iff.1 hu).1
      have := flat_get q3 he hc2
      rw [q2, hkl, hu] at this
      have := hcell _ _ this
      rwa [← Nat.add_assoc] at this
     ·cases hs
    ·cases hs
  ·cases hc
 ·exact slOk P hρ hp hn hrom H hc hs
theorem insK_ok (hρ : ρ.Ok) (hp : Holds ρ pc) : ∀ (l : List (IntKind × Nat × IE)), insK pc l = true → ∀ k n e, lkI l k n = some e → kmin k ≤ e.den ρ ∧ e.den ρ ≤ kmax k
 | [], _, k, n, e, h => by cases h
 | (j, m, f) :: l, hi, k, n, e, h => by
  simp only [insK] at hi
  split at hi
  ·rename_i h1
   simp only [lkI] at h
   split at h
   ·rename_i hk
    have hk' := (keq_iff _ _).1 hk
    subst hk'
    split at h
    ·cases h; exact inK_in hρ hp h1
    ·exact insK_ok hρ hp l hi _ _ _ h
   ·exact insK_ok hρ hp l hi _ _ _ h
  ·cases hi
theorem oddsB_ok (hρ : ρ.Ok) (hp : Holds ρ pc) {roms : Roms} (hr : RTyped roms ρ) : ∀ (l : List (Nat × LE)), oddsB roms pc l = true → ∀ n e, lk l n = some e → Typed byteK (e.den ρ) ∧ ((e.den ρ).length : Int) ≤ 9223372036854775807
 | [], _, n, e, h => by rw [lk_nil] at h; cases h
 | (m, f) :: l, hi, n, e, h => by
  simp only [oddsB] at hi
  split at hi
  ·split at hi
   ·rename_i h2
    split at hi
    ·rename_i h3
     rw [lk_cons] at h
     split at h
     ·cases h
      have := dec_le hρ hp h3
      rw [lenE_den hρ hp, lit_den] at this
      exact ⟨typedB_ok hρ hp hr _ h2, this⟩
     ·exact oddsB_ok hρ hp hr l hi n e h
    ·cases hi
   ·cases hi
  ·cases hi
theorem romsLen_ok (hρ : ρ.Ok) (hp : Holds ρ pc) : ∀ (l : List (Nat × LE)), romsLen pc l = true → ∀ n e, lk l n = some e → ((e.den ρ).length : Int) ≤ 9223372036854775807
 | [], _, n, e, h => by rw [lk_nil] at h; cases h
 | (m, f) :: l, hi, n, e, h => by
  simp only [romsLen] at hi
  split at hi
  ·rename_i h3
   rw [lk_cons] at h
   split at h
   ·cases h
    have := dec_le hρ hp h3
    rw [lenE_den hρ hp, lit_den] at this
    exact this
   ·exact romsLen_ok hρ hp l hi n e h
  ·cases hi
def slBase : Value → Option Addr
 | .slice a _ _ => a
 | _ => none
def slCap : Value → Nat
 | .slice _ _ c => c
 | _ => 0
noncomputable def Rho.call (ρ : Rho) (M : Mt) (cr : Roms) : Rho :=
  { ρ.sb M.S with z := { (ρ.sb M.S).z with
      ra := fun r => match lk M.m r with
        | some y => slBase (y.den ρ)
        | none => none
      rb := fun r => match lk M.m r with
        | some y => ((slBase (y.den ρ)).getD ⟨0, 0, none⟩).block
        | none => 0
      ro := fun r => match lk M.m r with
        | some y => ((slBase (y.den ρ)).getD ⟨0, 0, none⟩).off
        | none => 0
      rc := fun r => match lk M.m r with
        | some y => slCap (y.den ρ)
        | none => 0
      re := fun r => match lk cr r with
        | some (e, _) => e
        | none => 0 } }
theorem call_base (M : Mt) (cr : Roms) : Base (ρ.sb M.S) (ρ.call M cr) := ⟨fun _ _ _ => rfl, fun _ _ => rfl, fun _ _ => rfl, rfl, rfl⟩
theorem romsIn_ok {roms : Roms} {M : Mt} : ∀ {cr : Roms}, romsIn roms pc h M cr = true → ∀ r esz ks, lk cr r = some (esz, ks) → ∃ y l s, lk M.m r = some y ∧ lk M.S.r r = some l ∧ capOkH pc h y = true ∧ srcL roms pc h esz y = some s ∧ s.l = l ∧ ksFits ks s.ks = true ∧ ks.length = esz
 | [], _, r, esz, ks, h => by rw [lk_nil] at h; cases h
 | (q, (e, k)) :: t, hi, r, esz, ks, hl => by
  simp only [romsIn] at hi
  split at hi
  ·rename_i y l hy hlr
   split at hi
   ·rename_i hc
    split at hi
    ·rename_i s hs
     split at hi
     ·rename_i hb
      split at hi
      ·rename_i hf
       split at hi
       ·rename_i hk
        split at hi
        ·rw [lk_cons] at hl
         split at hl
         ·rename_i he
          subst he
          cases hl
          exact ⟨y, l, s, hy, hlr, hc, hs, LE.beq_eq _ _ hb, hf, by simpa using hk⟩
         ·exact romsIn_ok hi r esz ks hl
        ·cases hi
       ·cases hi
      ·cases hi
     ·cases hi
    ·cases hi
   ·cases hi
  ·cases hi
theorem call_ok' (P : Program) (hρ : ρ.Ok) (hp : Holds ρ pc) (hn : HNames nx h) (hrom : RomsOk T.orac.rom b0 ρ) (H : HeapR ρ b0 h w) {M : Mt} {cr : Roms} (h1 : romsIn T.orac.rom pc h M cr = true) (h2 : insK pc M.S.i = true) (h3 : oddsB T.orac.rom pc M.S.l = true) (h4 : romsLen pc M.S.r = true) :
  (ρ.call M cr).Ok ∧ RomsOk cr w (ρ.call M cr) := by
 refine ⟨⟨?_, ?_, ?_, ?_, ?_, ?_⟩, ?_, ?_⟩
 ·intro k n
  show kmin k ≤ (match lkI M.S.i k n with | some e => e.den ρ | none => ρ.i k n)
  split
  ·rename_i e he; exact (insK_ok hρ hp _ h2 k n e he).1
  ·exact hρ.lo k n
 ·intro k n
  show (match lkI M.S.i k n with | some e => e.den ρ | none => ρ.i k n) ≤ kmax k
  split
  ·rename_i e he; exact (insK_ok hρ hp _ h2 k n e he).2
  ·exact hρ.hi k n
 ·intro n
  show (((match lk M.S.l n with | some e => e.den ρ | none => ρ.l n) : LV).length : Int) ≤ _
  split
  ·rename_i e he; exact (oddsB_ok hρ hp hrom.typed _ h3 n e he).2
  ·exact hρ.ll n
 ·intro n hodd
  show Typed byteK (match lk M.S.l n with | some e => e.den ρ | none => ρ.l n)
  split
  ·rename_i e he; exact (oddsB_ok hρ hp hrom.typed _ h3 n e he).1
  ·exact hρ.lodd n hodd
 ·intro r
  show (((match lk M.S.r r with | some l => l.den ρ | none => ρ.z.rl r) : LV).length : Int) ≤ _
  split
  ·rename_i e he; exact romsLen_ok hρ hp _ h4 r e he
  ·exact hρ.rl r
 ·exact hρ.fodd
 ·exact globok_grown (F := ρ.z.F) hrom.1 H.g0
 ·intro r esz ks hr
  obtain ⟨y, l, s, q1, q2, q3, q4, q5, q6, q7⟩ := romsIn_ok h1 r esz ks hr
  subst q5
  have hS := srcL_ok (P := P) hρ hp hn hrom H q4
  obtain ⟨base, cap, e1, e2, e3⟩ := (slOkH P hρ hp hn hrom H q3 q4).den
  have a1 : (ρ.call M cr).z.rl r = s.l.den ρ := by show (match lk M.S.r r with | some l => l.den ρ | none => ρ.z.rl r) = _; rw [q2]
  have a2 : (ρ.call M cr).z.ra r = base := by show (match lk M.m r with | some y => slBase (y.den ρ) | none => none) = _; rw [q1]; simp only [e1, slBase]
  have a3 : (ρ.call M cr).z.rb r = (base.getD ⟨0, 0, none⟩).block := by show (match lk M.m r with | some y => ((slBase (y.den ρ)).getD ⟨0, 0, none⟩).block | none => 0) = _; rw [q1]; simp only [e1, slBase]
  have a4 : (ρ.call M cr).z.ro r = (base.getD ⟨0, 0, none⟩).off := by show (match lk M.m r with | some y => ((slBase (y.den ρ)).getD ⟨0, 0, none⟩).off | none => 0) = _; rw [q1]; simp only [e1, slBase]
  have a5 : (ρ.call M cr).z.rc r = cap := by show (match lk M.m r with | some y => slCap (y.den ρ) | none => 0) = _; rw [q1]; simp only [e1, slCap]
  have a6 : (ρ.call M cr).z.re r = esz := by show (match lk cr r with | some (e, _) => e | none => 0) = _; rw [hr]
  have ht : Typed ks (s.l.den ρ) := by
   unfold ksFits at q6
   split at q6
   ·rename_i k hk
    rw [← ksEq_eq _ _ q6] at hk
    exact hS.typed (.inr hk)
   ·rename_i hk; exact hS.typed (.inl hk)
  rw [a1, a2, a3, a4, a5, a6]
  refine ⟨q7, rfl, ht, fun hpos => ?_, e2, ?_⟩
  ·obtain ⟨b, o, rfl, f2, _⟩ := e3 hpos
   exact ⟨rfl, f2⟩
  ·intro i c e v he hv
   have hlt := (List.getElem?_eq_some_iff.1 he).1
   obtain ⟨b, o, rfl, _, f3⟩ := e3 (by omega)
   exact f3 i c e v he hv
theorem fitV_ok (P : Program) (hρ : ρ.Ok) (hp : Holds ρ pc) (hn : HNames nx h) (hrom : RomsOk T.orac.rom b0 ρ) (H : HeapR ρ b0 h w) {M : Mt} {cr : Roms} (h1 : romsIn T.orac.rom pc h M cr = true) {p v : SV} (hf : fitV T.orac.rom pc h cr M p v = true) : p.den (ρ.call M cr) = v.den ρ := by
 unfold fitV at hf
 split at hf
 ·rename_i r q
  split at hf
  ·rename_i hrq
   have hrq' : r = q := by simpa using hrq
   subst hrq'
   split at hf
   ·rename_i p' y hcr hy
    obtain ⟨esz, ks⟩ := p'
    have hxy := SV.beq_eq _ _ hf
    subst hxy
    obtain ⟨y, l, s, q1, q2, q3, q4, q5, q6, q7⟩ := romsIn_ok h1 r esz ks hcr
    rw [hy] at q1; cases q1
    subst q5
    obtain ⟨base, cap, e1, e2, e3⟩ := (slOkH P hρ hp hn hrom H q3 q4).den
    have a1 : (ρ.call M cr).z.rl r = s.l.den ρ := by show (match lk M.S.r r with | some l => l.den ρ | none => ρ.z.rl r) = _; rw [q2]
    have a2 : (ρ.call M cr).z.ra r = base := by show (match lk M.m r with | some y => slBase (y.den ρ) | none => none) = _; rw [hy]; simp only [e1, slBase]
    have a5 : (ρ.call M cr).z.rc r = cap := by show (match lk M.m r with | some y => slCap (y.den ρ) | none => 0) = _; rw [hy]; simp only [e1, slCap]
    rw [e1]
    simp only [SV.den, capDen, IE.den, LE.den, lenV, a1, a2, a5]
    have : base.map (fun a => a.add ((Int.ofNat 0).toNat * (ρ.call M cr).z.re r)) = base := by
     cases base with
     | none => rfl
     | some a => simp [Addr.add]
    rw [this]
    simp
   ·cases hf
  ·cases hf
 ·rename_i x n
  split at hf
  ·split at hf
   ·rename_i l l' hl hl'
    have he := LE.beq_eq _ _ hf
    subst he
    rw [(asL_ok hρ hp hrom.typed hl).1]
    simp only [SV.den, LE.den]
    have : (ρ.call M cr).l n = l.den ρ := by show (match lk M.S.l n with | some e => e.den ρ | none => ρ.l n) = _; rw [hl']
    rw [this]
   ·cases hf
  ·cases hf
 ·rename_i x p _
  split at hf
  ·rename_i hfree
   split at hf
   ·rename_i l hl
    have he := LE.beq_eq _ _ hf
    rw [(asL_ok hρ hp hrom.typed hl).1]
    simp only [SV.den]
    rw [LE.free_den (call_base M cr) p hfree, ← LE.sb_den hρ hp p, he]
   ·cases hf
  ·cases hf
 ·rename_i k j n i e
  split at hf
  ·rename_i hk
   split at hf
   ·rename_i hk2
    split at hf
    ·split at hf
     ·rename_i e' he'
      have q1 := (keq_iff _ _).1 hk
      have q2 := (keq_iff _ _).1 hk2
      subst q1; subst q2
      have hb := IE.beq_eq _ _ hf
      subst hb
      simp only [SV.den, IE.den]
      have : (ρ.call M cr).i k n = e.den ρ := by show (match lkI M.S.i k n with | some e => e.den ρ | none => ρ.i k n) = _; rw [he']
      rw [this]
     ·cases hf
    ·cases hf
   ·cases hf
  ·cases hf
 ·rename_i n e
  split at hf
  ·rename_i e' he'
   have hb := BE.beq_eq _ _ hf
   subst hb
   simp only [SV.den, BE.den]
   have : (ρ.call M cr).b n = e.den ρ := by show (match lk M.S.b n with | some e => e.den ρ | none => ρ.b n) = _; rw [he']
   rw [this]
  ·cases hf
 ·rename_i k a j b
  split at hf
  ·rename_i hk
   rw [(keq_iff _ _).1 hk, ieqb_t hf]
   simp only [SV.den, IE.den]
  ·cases hf
 ·rename_i a b
  have : a = b := by simpa using hf
  subst this
  simp only [SV.den, BE.den]
 ·rename_i f g
  have : f = g := by simpa using hf
  subst this
  simp [SV.den, SV.denL, fnDen]
 all_goals first
  | cases hf; done
  | simp only [SV.den]; done
  | rfl
theorem fitL_ok (P : Program) (hρ : ρ.Ok) (hp : Holds ρ pc) (hn : HNames nx h) (hrom : RomsOk T.orac.rom b0 ρ) (H : HeapR ρ b0 h w) {M : Mt} {cr : Roms} (h1 : romsIn T.orac.rom pc h M cr = true) : ∀ (ps vs : List SV), fitL T.orac.rom pc h cr M ps vs = true → SV.denL (ρ.call M cr) ps = SV.denL ρ vs
 | [], [], _ => rfl
 | [], _ :: _, hf => by cases hf
 | _ :: _, [], hf => by cases hf
 | p :: ps, v :: vs, hf => by
  simp only [fitL] at hf
  split at hf
  ·rename_i h2
   rw [SV.denL, SV.denL, fitV_ok P hρ hp hn hrom H h1 h2, fitL_ok P hρ hp hn hrom H h1 ps vs hf]
  ·cases hf
theorem fit1_ok (P : Program) (hρ : ρ.Ok) (hp : Holds ρ pc) (hn : HNames nx h) (hrom : RomsOk T.orac.rom b0 ρ) (H : HeapR ρ b0 h w) {M : Mt} {cr : Roms} (h1 : romsIn T.orac.rom pc h M cr = true) : ∀ (ps vs : List SV), fit1 T.orac.rom pc h cr M ps vs = true → SV.denL (ρ.call M cr) ps = SV.denL ρ vs := by
  intro ps
  induction ps with
  | nil => intro vs hf; cases vs with
    | nil => rfl
    | cons v vs => simp [fit1] at hf
  | cons p ps ih =>
    intro vs hf
    unfold fit1 at hf
    split at hf
    · rename_i hq; cases hq
    · rename_i p' ps' v' vs' hq
      cases hq
      split at hf
      · rename_i h2
        rw [SV.denL, SV.denL, SV.den, SV.den, fitL_ok P hρ hp hn hrom H h1 _ _ h2, ih _ hf]
      · cases hf
    · rename_i p' ps' v' vs' _ hq
      cases hq
      split at hf
      · rename_i h2
        rw [SV.denL, SV.denL, fitV_ok P hρ hp hn hrom H h1 h2, ih _ hf]
      · cases hf
    · cases hf
theorem flat_den {ρ ρ' : Rho} (g : Base ρ ρ') {N : Nat} (ha : ∀ n, n < N → ρ'.a n = ρ.a n) : ∀ {v : SV}, v.flat = true → NamesV N v → v.den ρ' = v.den ρ := by
 intro v hf hn
 unfold SV.flat at hf
 split at hf
 ·simp only [SV.den, BE.free_den g _ hf]
 ·simp only [SV.den, IE.free_den g _ hf]
 ·simp only [SV.den, LE.free_den g _ hf]
 ·rename_i n cn sz len
  simp only [SV.den, capDen, IE.free_den g _ hf, ha n (hn n (by simp [SV.names])), ha cn (hn cn (by simp [SV.names])), IE.den]
 ·rename_i n cn sz len c
  simp only [SV.den, capDen, IE.free_den g _ (ifb hf).1, IE.free_den g _ (ifb hf).2, ha n (hn n (by simp [SV.names])), ha cn (hn cn (by simp [SV.names])), IE.den]
 ·simp only [SV.den]
 ·simp only [SV.den]
 ·cases hf
theorem flatL_den {ρ ρ' : Rho} (g : Base ρ ρ') {N : Nat} (ha : ∀ n, n < N → ρ'.a n = ρ.a n) : ∀ {l : List SV}, flatL l = true → (∀ m ∈ SV.namesL l, m < N) → SV.denL ρ' l = SV.denL ρ l
 | [], _, _ => rfl
 | v :: l, hf, hn => by
  rw [SV.denL, SV.denL, flat_den g ha (ifb hf).1 (fun m hm => hn m (by simp [SV.namesL, hm])), flatL_den g ha (ifb hf).2 (fun m hm => hn m (by simp [SV.namesL, hm]))]
theorem flat1_den {ρ ρ' : Rho} (g : Base ρ ρ') {N : Nat} (ha : ∀ n, n < N → ρ'.a n = ρ.a n) {v : SV} (hf : v.flat1 = true) (hn : NamesV N v) : v.den ρ' = v.den ρ := by
 unfold SV.flat1 at hf
 split at hf
 ·simp only [SV.den, flatL_den g ha hf (fun m hm => hn m (by simpa [SV.names] using hm))]
 ·exact flat_den g ha hf hn
theorem flatL1_den {ρ ρ' : Rho} (g : Base ρ ρ') {N : Nat} (ha : ∀ n, n < N → ρ'.a n = ρ.a n) : ∀ {l : List SV}, flatL1 l = true → (∀ m ∈ SV.namesL l, m < N) → SV.denL ρ' l = SV.denL ρ l
 | [], _, _ => rfl
 | v :: l, hf, hn => by
  rw [SV.denL, SV.denL, flat1_den g ha (ifb hf).1 (fun m hm => hn m (by simp [SV.namesL, hm])), flatL1_den g ha (ifb hf).2 (fun m hm => hn m (by simp [SV.namesL, hm]))]
theorem flat2_den {ρ ρ' : Rho} (g : Base ρ ρ') {N : Nat} (ha : ∀ n, n < N → ρ'.a n = ρ.a n) {v : SV} (hf : v.flat2 = true) (hn : NamesV N v) : v.den ρ' = v.den ρ := by
 unfold SV.flat2 at hf
 split at hf
 ·unfold SV.flatP at hf
  split at hf
  ·simp only [SV.den, flat1_den g ha hf (fun m hm => hn m (by simpa [SV.names] using hm))]
  ·cases hf
 ·simp only [SV.den, flatL1_den g ha hf (fun m hm => hn m (by simpa [SV.names] using hm))]
 ·exact flat1_den g ha hf hn
theorem lk_append' {α : Type} (l m : List (Nat × α)) (n : Nat) : lk (l ++ m) n = match lk l n with | some o => some o | none => lk m n := by
  induction l with
  | nil => simp [lk_nil]
  | cons p l ih =>
    obtain ⟨k, o⟩ := p
    rw [List.cons_append, lk_cons, lk_cons, ih]
    by_cases e : k = n <;> simp [e]
theorem flat_names {S : Sub} {N : Nat} (hS : ∀ n, n < N → nmA S.a n = nx + n) {v : SV} (hf : v.flat = true) (hn : NamesV N v) : NamesV (nx + N) (v.sb pc S) := by
 intro m hm
 unfold SV.flat at hf
 split at hf
 ·simp [SV.sb, SV.names] at hm
 ·simp [SV.sb, SV.names] at hm
 ·simp [SV.sb, SV.names] at hm
 ·rename_i n cn sz len
  have h1 := hn n (by simp [SV.names])
  have h2 := hn cn (by simp [SV.names])
  simp only [SV.sb, SV.names, List.mem_cons, List.not_mem_nil, or_false, hS n h1, hS cn h2] at hm
  omega
 ·rename_i n cn sz len c
  have h1 := hn n (by simp [SV.names])
  have h2 := hn cn (by simp [SV.names])
  simp only [SV.sb, SV.names, List.mem_cons, List.not_mem_nil, or_false, hS n h1, hS cn h2] at hm
  omega
 ·simp [SV.sb, SV.names] at hm
 ·simp [SV.sb, SV.names] at hm
 ·cases hf
theorem flatL_names {S : Sub} {N : Nat} (hS : ∀ n, n < N → nmA S.a n = nx + n) : ∀ {l : List SV}, flatL l = true → (∀ m ∈ SV.namesL l, m < N) → ∀ m ∈ SV.namesL (SV.sbL pc S l), m < nx + N
 | [], _, _, m, hm => by simp [SV.sbL, SV.namesL] at hm
 | v :: l, hf, hn, m, hm => by
  simp only [SV.sbL, SV.namesL, List.mem_append] at hm
  rcases hm with hm | hm
  ·exact flat_names hS (ifb hf).1 (fun k hk => hn k (by simp [SV.namesL, hk])) m hm
  ·exact flatL_names hS (ifb hf).2 (fun k hk => hn k (by simp [SV.namesL, hk])) m hm
theorem flat1_names {S : Sub} {N : Nat} (hS : ∀ n, n < N → nmA S.a n = nx + n) {v : SV} (hf : v.flat1 = true) (hn : NamesV N v) : NamesV (nx + N) (v.sb pc S) := by
 unfold SV.flat1 at hf
 split at hf
 ·intro m hm
  simp only [SV.sb, SV.names] at hm
  exact flatL_names hS hf (fun k hk => hn k (by simpa [SV.names] using hk)) m hm
 ·exact flat_names hS hf hn
theorem flatL1_names {S : Sub} {N : Nat} (hS : ∀ n, n < N → nmA S.a n = nx + n) : ∀ {l : List SV}, flatL1 l = true → (∀ m ∈ SV.namesL l, m < N) → ∀ m ∈ SV.namesL (SV.sbL pc S l), m < nx + N
 | [], _, _, m, hm => by simp [SV.sbL, SV.namesL] at hm
 | v :: l, hf, hn, m, hm => by
  simp only [SV.sbL, SV.namesL, List.mem_append] at hm
  rcases hm with hm | hm
  ·exact flat1_names hS (ifb hf).1 (fun k hk => hn k (by simp [SV.namesL, hk])) m hm
  ·exact flatL1_names hS (ifb hf).2 (fun k hk => hn k (by simp [SV.namesL, hk])) m hm
theorem flat2_names {S : Sub} {N : Nat} (hS : ∀ n, n < N → nmA S.a n = nx + n) {v : SV} (hf : v.flat2 = true) (hn : NamesV N v) : NamesV (nx + N) (v.sb pc S) := by
 unfold SV.flat2 at hf
 split at hf
 ·unfold SV.flatP at hf
  split at hf
  ·intro m hm
   simp only [SV.sb, SV.names] at hm
   exact flat1_names hS hf (fun k hk => hn k (by simpa [SV.names] using hk)) m hm
  ·cases hf
 ·intro m hm
  simp only [SV.sb, SV.names] at hm
  exact flatL1_names hS hf (fun k hk => hn k (by simpa [SV.names] using hk)) m hm
 ·exact flat1_names hS hf hn
theorem flatH_row : ∀ {hh : SHeap}, flatH hh = true → ∀ n o, lk hh n = some o → ∃ c tot ks t cn sz, o = .rowl c tot ks t cn sz ∧ c.free = true ∧ tot.free = true
 | [], _, n, o, hl => by rw [lk_nil] at hl; cases hl
 | (m, p) :: hh, hf, n, o, hl => by
  unfold flatH at hf
  split at hf
  ·rename_i hq; cases hq
  ·rename_i c tot ks t cn sz h' hq
   cases hq
   rw [lk_cons] at hl
   have hf2 := (ifb hf).2
   split at hl
   ·cases hl; exact ⟨_, _, _, _, _, _, rfl, (ifb hf).1, (ifb hf2).1⟩
   ·exact flatH_row (ifb hf2).2 n o hl
  ·cases hf
theorem shiftA_lk (nx : Nat) : ∀ (k m n : Nat), lk (shiftA nx k m) n = if m ≤ n ∧ n < m + k then some (nx + n) else none
 | 0, m, n => by
  rw [shiftA, lk_nil, if_neg (by omega)]
 | k + 1, m, n => by
  rw [shiftA, lk_cons, shiftA_lk nx k (m + 1) n]
  by_cases h : m = n
  ·subst h; simp
  ·rw [if_neg h]
   by_cases h2 : m + 1 ≤ n ∧ n < m + 1 + k
   ·rw [if_pos h2, if_pos (by omega)]
   ·rw [if_neg h2, if_neg (by omega)]
theorem sbH_lk {S : Sub} {N : Nat} (hS : ∀ n, n < N → nmA S.a n = nx + n) : ∀ {hh : SHeap}, (∀ p ∈ hh, p.1 < N) → ∀ m o, lk (sbH pc S hh) m = some o → ∃ n p, lk hh n = some p ∧ m = nx + n ∧ n < N ∧ o = p.sb pc S
 | [], _, m, o, hl => by rw [sbH, lk_nil] at hl; cases hl
 | (k, p) :: hh, hN, m, o, hl => by
  have hk : k < N := hN (k, p) (List.mem_cons_self ..)
  rw [sbH, lk_cons, hS k hk] at hl
  split at hl
  ·rename_i he
   cases hl
   exact ⟨k, p, by rw [lk_cons, if_pos rfl], he.symm, hk, rfl⟩
  ·rename_i he
   obtain ⟨n, q, h1, h2, h3, h4⟩ := sbH_lk hS (fun x hx => hN x (List.mem_cons_of_mem _ hx)) m o hl
   refine ⟨n, q, ?_, h2, h3, h4⟩
   rw [lk_cons, if_neg (by omega), h1]
theorem useC_ok (hT : PostsOk T.orac) (hρ : ρ.Ok) (hp : Holds ρ pc) (hn : HNames nx h) (hO : OracOk P b0 T.orac ρ) (H : HeapR ρ b0 h w) {c : Ctr} (hc : c ∈ T.orac.ctr) {args : List SV} {u : Used} (hu : useC T.orac.rom pc h nx c args = .use u) :
  Holds ρ u.post ∧ Calls P c.f (SV.denL ρ args).toArray w fun e w' => ∃ ρ', e = endS ρ' u.val ∧ Move ρ ρ' b0 h (u.made ++ h) nx u.next w w' ∧ NamesV u.next u.val := by
 refine ⟨useC_post ⟨hρ, hO.F⟩ hp (hT.1 c hc) hu, ?_⟩
 have hC := hO.ctr c hc
 have hrom := hO.rom
 unfold useC at hu
 generalize match1 T.orac.rom pc h c.roms c.pat args ⟨Sub.nil, []⟩ = M at hu
 simp only [] at hu
 split at hu
 ·rename_i h1
  split at hu
  ·rename_i h2
   split at hu
   ·rename_i h3
    split at hu
    ·rename_i h4
     split at hu
     ·rename_i h5
      split at hu
      ·rename_i h6
       cases hu
       obtain ⟨k1, k2⟩ := call_ok' (T := T) (b0 := b0) (w := w) P hρ hp hn hrom H h2 h3 h4 h5
       have hpre : Holds (ρ.call M c.roms) c.pre := (freeL_holds (call_base M c.roms) _ hC.flat.2.2.2).2 (preOk_ok hρ hp _ h6)
       have hcall := hC.call (ρ.call M c.roms) w ⟨k1, hO.F⟩ k2 hpre
       rw [fit1_ok P hρ hp hn hrom H h2 _ _ h1] at hcall
       refine hcall.mono ?_
       rintro e w' ⟨ρ1, g1, rfl, H1⟩
       -- where things lie now
       obtain ⟨ρ2, hρ2⟩ : ∃ ρ2 : Rho, ρ2 = { ρ with a := fun n => if nx ≤ n ∧ n < nx + c.cnt then ρ1.a (n - nx) else ρ.a n } := ⟨_, rfl⟩
       have g2 : Agr ρ ρ2 nx (nx + c.cnt) := by
        subst hρ2
        exact ⟨rfl, rfl, rfl, rfl, rfl, fun n hn => by
         have : ¬ (nx ≤ n ∧ n < nx + c.cnt) := by omega
         simp [this]⟩
       have ha2 : ∀ n, n < c.cnt → ρ2.a (nx + n) = ρ1.a n := by
        intro n hn
        subst hρ2
        have : nx ≤ nx + n ∧ nx + n < nx + c.cnt := by omega
        simp [this]
       obtain ⟨S, hS⟩ : ∃ S : Sub, S = { M.S with a := shiftA nx c.cnt 0 } := ⟨_, rfl⟩
       rw [← hS]
       have hnm : ∀ n, n < c.cnt → nmA S.a n = nx + n := by
        intro n hn
        rw [hS]
        unfold nmA
        simp only
        rw [shiftA_lk, if_pos (by omega)]
       have hρ2ok := g2.ok hρ
       have hp2 : Holds ρ2 pc := (g2.holds).2 hp
       have base : Base ρ1 (ρ2.sb S) := by
        have b1 : Same (ρ.sb M.S) (ρ.sb S) := by rw [hS]; exact ⟨rfl, rfl, rfl, rfl, rfl⟩
        have b2 : Base (ρ.sb S) (ρ2.sb S) := by
         have sm := g2.same
         refine ⟨?_, ?_, ?_, ?_, ?_⟩
         ·intro k n _
          show (match lkI S.i k n with | some e => e.den ρ2 | none => ρ2.i k n) = (match lkI S.i k n with | some e => e.den ρ | none => ρ.i k n)
          cases lkI S.i k n <;> simp [IE.den_same sm, sm.i]
         ·intro n _
          show (match lk S.b n with | some e => e.den ρ2 | none => ρ2.b n) = (match lk S.b n with | some e => e.den ρ | none => ρ.b n)
          cases lk S.b n <;> simp [BE.den_same sm, sm.b]
         ·intro n _
          show (match lk S.l n with | some e => e.den ρ2 | none => ρ2.l n) = (match lk S.l n with | some e => e.den ρ | none => ρ.l n)
          cases lk S.l n <;> simp [LE.den_same sm, sm.l]
         ·show ρ2.z.F = ρ.z.F; rw [sm.z]
         ·funext r
          show (match lk S.r r with | some l => l.den ρ2 | none => ρ2.z.rl r) = (match lk S.r r with | some l => l.den ρ | none => ρ.z.rl r)
          cases lk S.r r <;> simp [LE.den_same sm, sm.z]
        have b0' := call_base (ρ := ρ) M c.roms
        exact ⟨fun k n hn => by rw [b2.i k n hn, b1.i, ← b0'.i k n hn, ← g1.i], fun n hn => by rw [b2.b n hn, b1.b, ← b0'.b n hn, ← g1.b], fun n hn => by rw [b2.l n hn, b1.l, ← b0'.l n hn, ← g1.l], by rw [b2.F, b1.z, ← b0'.F, ← g1.z], by rw [b2.rl, b1.z, ← b0'.rl, ← g1.z]⟩
       have hab : ∀ n, n < c.cnt → (ρ2.sb S).a n = ρ1.a n := by
        intro n hn
        show ρ2.a (nmA S.a n) = _
        rw [hnm n hn, ha2 n hn]
       have hval : (c.res.sb pc S).den ρ2 = c.res.den ρ1 := by
        rw [SV.sb_den hρ2ok hp2]
        exact flat2_den base hab hC.flat.1 hC.names.2.1
       have hmade := fun m o hl => sbH_lk (pc := pc) (S := S) (nx := nx) (N := c.cnt) hnm hC.names.2.2.2 m o hl
       have hlkap : ∀ n o, lk (sbH pc S c.heap ++ h) n = some o → (∃ n' p, lk c.heap n' = some p ∧ n = nx + n' ∧ n' < c.cnt ∧ o = p.sb pc S) ∨ lk h n = some o := by
        intro n o hl
        rw [lk_append'] at hl
        split at hl
        ·rename_i o' ho'
         cases hl
         exact .inl (hmade n _ ho')
        ·exact .inr hl
       refine ⟨ρ2, (endS_sb (topOk_flat2 hC.flat.1) hval).symm, ⟨g2, by show nx ≤ nx + c.cnt; omega, ⟨?_, ?_, ?_, ?_⟩, H1.g0.size, fun k hk _ => H1.g0.block k hk (by simp), ?_, ?_⟩, ?_⟩
       ·exact ⟨⟨H1.g0.os.trans H.g0.os, H1.g0.tape.trans H.g0.tape, H1.g0.output.trans H.g0.output, Nat.le_trans H.g0.size H1.g0.size, fun k hk hne => (H1.g0.block k (Nat.lt_of_lt_of_le hk H.g0.size) (by simp)).trans (H.g0.block k hk hne)⟩, fun h => Nat.le_trans (H.g0.dr h) (H1.g0.dr h)⟩
       ·intro n o hl
        rcases hlkap n o hl with ⟨n', p, q1, rfl, q3, rfl⟩ | q
        ·obtain ⟨obj, r1, r2⟩ := H1.at_ n' p q1
         refine ⟨obj, by rw [ha2 n' q3]; exact r1, ?_⟩
         obtain ⟨cc, tot, ks, t, cn, sz, rfl, f1, f2⟩ := flatH_row hC.flat.2.1 n' p q1
         have hcn : cn < c.cnt := (hC.names.1 n' _ q1).2 cn (by simp [SObj.names])
         simp only [SObj.sb, ObjR] at r2 ⊢
         rw [LE.sb_den hρ2ok hp2, IE.sb_den hρ2ok hp2, LE.free_den base _ f1, IE.free_den base _ f2, hnm cn hcn, ha2 cn hcn]
         exact r2
        ·obtain ⟨obj, r1, r2⟩ := H.at_ n o q
         have hlt := HeapR.lt H q
         refine ⟨obj, ?_, r2.agr g2 (fun m hm => .inl ((hn n o q).2 m hm))⟩
         rw [g2.a n (.inl (hn n o q).1)]
         exact (H1.g0.block _ hlt (by simp)).trans r1
       ·intro n o hl
        rcases hlkap n o hl with ⟨n', p, q1, rfl, q3, rfl⟩ | q
        ·rw [ha2 n' q3]; exact Nat.le_trans H.g0.size (H1.own n' p q1)
        ·rw [g2.a n (.inl (hn n o q).1)]; exact H.own n o q
       ·intro n m o p hl hm he
        rcases hlkap n o hl with ⟨n', p', q1, rfl, q3, rfl⟩ | q <;> rcases hlkap m p hm with ⟨m', p'', s1, rfl, s3, rfl⟩ | s
        ·rw [ha2 n' q3, ha2 m' s3] at he
         rw [H1.inj n' m' _ _ q1 s1 he]
        ·rw [ha2 n' q3, g2.a m (.inl (hn m p s).1)] at he
         have := H1.own n' p' q1
         have := HeapR.lt H s
         omega
        ·rw [ha2 m' s3, g2.a n (.inl (hn n o q).1)] at he
         have := H1.own m' _ s1
         have := HeapR.lt H q
         omega
        ·rw [g2.a m (.inl (hn m p s).1), g2.a n (.inl (hn n o q).1)] at he
         exact H.inj n m o p q s he
       ·intro n o hl
        rcases hlkap n o hl with ⟨n', p, q1, rfl, q3, rfl⟩ | q
        ·refine .inr ⟨by omega, by show nx + n' < nx + c.cnt; omega, .inl ?_⟩
         rw [ha2 n' q3]; exact H1.own n' p q1
        ·exact .inl ⟨o, q⟩
       ·intro n o hl
        rcases hlkap n o hl with ⟨n', p, q1, rfl, q3, rfl⟩ | q
        ·refine ⟨by show nx + n' < nx + c.cnt; omega, fun m hm => ?_⟩
         obtain ⟨cc, tot, ks, t, cn, sz, rfl, f1, f2⟩ := flatH_row hC.flat.2.1 n' p q1
         have hcn : cn < c.cnt := (hC.names.1 n' _ q1).2 cn (by simp [SObj.names])
         simp only [SObj.sb, SObj.names, List.mem_cons, List.not_mem_nil, or_false] at hm
         subst hm
         show nmA S.a cn < nx + c.cnt
         rw [hnm cn hcn]; omega
        ·exact ⟨Nat.lt_of_lt_of_le (hn n o q).1 (by show nx ≤ nx + c.cnt; omega), fun m hm => Nat.lt_of_lt_of_le ((hn n o q).2 m hm) (by show nx ≤ nx + c.cnt; omega)⟩
       ·exact flat2_names hnm hC.flat.1 hC.names.2.1
      ·cases hu
      ·cases hu
     ·cases hu
    ·cases hu
   ·cases hu
  ·cases hu
 ·cases hu
end
end Go.Proofs.Ythenenacmiiphaa.Sx
namespace Go.Proofs.Ythenenacmiiphaa.Sx
open Go
mutual
theorem SV.den_eq {ρ ρ' : Rho} (h : Same ρ ρ') : ∀ (v : SV), (∀ n ∈ v.names, ρ'.a n = ρ.a n) → v.den ρ' = v.den ρ
 | .bool b, _ => by simp [SV.den, BE.den_same h]
 | .int k e, _ => by simp [SV.den, IE.den_same h]
 | .ptr n off, hn => by simp [SV.den, hn n (by simp [SV.names])]
 | .slice n off len cap, hn => by simp [SV.den, hn n (by simp [SV.names])]
 | .func fn f c, hn => by
  have hf : fnDen ρ' fn = fnDen ρ fn := by
   cases fn <;> simp [fnDen]
   exact hn _ (by simp [SV.names])
  have h1 := SV.denL_same h f (fun n hm => hn n (by cases fn <;> simp [SV.names, hm]))
  have h2 := SV.denL_same h c (fun n hm => hn n (by cases fn <;> simp [SV.names, hm]))
  simp [SV.den, hf, h1, h2]
 | .iface t v, hn => by simp [SV.den, SV.den_eq h v (fun n hm => hn n (by simpa [SV.names] using hm))]
 | .agg cs, hn => by simp [SV.den, SV.denL_same h cs (fun n hm => hn n (by simpa [SV.names] using hm))]
 | .tup vs, hn => by simp [SV.den, SV.denL_same h vs (fun n hm => hn n (by simpa [SV.names] using hm))]
 | .opq n, _ => by simp [SV.den, h.v]
 | .const v, _ => by simp [SV.den]
 | .str bs, _ => by
  have : bs.map (IE.den ρ') = bs.map (IE.den ρ) := List.map_congr_left fun e _ => IE.den_same h e
  simp [SV.den, this]
 | .sl n cn sz off len, hn => by simp [SV.den, hn n (by simp [SV.names]), hn cn (by simp [SV.names])]
 | .rom r off len cap, _ => by simp [SV.den, h.z, IE.den_same h, capDen_same h]
 | .rptr r i c, _ => by simp [SV.den, h.z, IE.den_same h]
 | .sll n cn sz off len cap, hn => by simp [SV.den, hn n (by simp [SV.names]), hn cn (by simp [SV.names]), IE.den_same h, capDen_same h]
 | .lptr n sz i c, hn => by simp [SV.den, hn n (by simp [SV.names]), IE.den_same h]
 | .sle n cn sz off l, hn => by simp [SV.den, hn n (by simp [SV.names]), hn cn (by simp [SV.names]), IE.den_same h]
 | .map n, hn => by simp [SV.den, hn n (by simp [SV.names])]
 | .lstr l, _ => by simp [SV.den, LE.den_same h]
 | .cel l i j, _ => by simp [SV.den, LE.den_same h, IE.den_same h]
theorem SV.denL_same {ρ ρ' : Rho} (h : Same ρ ρ') : ∀ (l : List SV), (∀ n ∈ SV.namesL l, ρ'.a n = ρ.a n) → SV.denL ρ' l = SV.denL ρ l
 | [], _ => rfl
 | v :: l, hn => by
  rw [SV.denL, SV.denL, SV.den_eq h v (fun n hm => hn n (by simp [SV.namesL, hm])), SV.denL_same h l (fun n hm => hn n (by simp [SV.namesL, hm]))]
end
theorem ObjR.same {ρ ρ' : Rho} (g : Same ρ ρ') {o : SObj} {obj : Obj} (h : ObjR ρ o obj) (hn : ∀ m ∈ o.names, ρ'.a m = ρ.a m) : ObjR ρ' o obj := by
 cases o with
 | cells cs t =>
  have := SV.denL_same g cs (by simpa [SObj.names] using hn)
  simp only [ObjR] at h ⊢
  rw [this]; exact h
 | row cs t cn sz =>
  have := SV.denL_same g cs (fun m hm => hn m (by simp [SObj.names, hm]))
  simp only [ObjR] at h ⊢
  rw [this, hn cn (by simp [SObj.names])]; exact h
 | rowl c tot ks t cn sz =>
  simp only [ObjR] at h ⊢
  rw [LE.den_same g, IE.den_same g, hn cn (by simp [SObj.names])]; exact h
 | mix pre c len k post t =>
  have h1 := SV.denL_same g pre (fun m hm => hn m (by simp [SObj.names, hm]))
  have h2 := SV.denL_same g post (fun m hm => hn m (by simp [SObj.names, hm]))
  simp only [ObjR] at h ⊢
  rw [LE.den_same g, h1, h2]; exact h
 | loop st pend fn tmps ps as body d =>
  obtain ⟨X, hX, c1, c2, c3, ho⟩ := h
  refine ⟨X, ?_, c1, c2, c3, ?_⟩
  ·intro i
   rw [← hX i]
   cases hv : get2 tmps i with
   | none => rfl
   | some v =>
    simp only [Option.map_some, Option.some.injEq]
    apply SV.den_eq g
    intro m hm
    refine hn m ?_
    simp only [SObj.names, List.mem_cons]
    exact .inr (mem_namesL.2 ⟨v, get2_flat hv, hm⟩)
  ·rw [hn d (by simp [SObj.names])]; exact ho
 | defd s => exact h
 | mapo ks vs bs c =>
  have h1 := SV.denL_same g ks (fun m hm => hn m (by simp [SObj.names, hm]))
  have h2 := SV.denL_same g vs (fun m hm => hn m (by simp [SObj.names, hm]))
  simp only [ObjR] at h ⊢
  rw [h1, h2]; exact h

theorem memN_iff (n : Nat) (l : List Nat) : memN n l = true ↔ n ∈ l := by
  induction l with
  | nil => simp [memN]
  | cons x l ih =>
    simp only [memN, List.mem_cons]
    split
    · rename_i h; have : x = n := by simpa using h
      simp [this]
    · rename_i h
      rw [ih]
      have : ¬ n = x := by intro e; exact h (by simp [e])
      simp [this]
section
variable {ρ : Rho} {S : Sub} {b0 : World} {pc : List BE}
theorem sbL_eq (l : List SV) : SV.sbL pc S l = l.map (SV.sb pc S) := by
  induction l with
  | nil => rfl
  | cons v l ih => simp [SV.sbL, ih]
theorem subSl_eq (t : Slots) : subSl pc S t = t.map fun l => l.map (SV.sb pc S) := by
  induction t with
  | nil => rfl
  | cons l t ih => simp [subSl, ih, sbL_eq]
theorem get2_subSl (t : Slots) (i : Nat) : get2 (subSl pc S t) i = (get2 t i).map (SV.sb pc S) := by
 rw [get2_eq, get2_eq, subSl_eq, List.getElem?_map]
 cases t[i / 8]? <;> simp
theorem eqSl_eq : ∀ (a b : Slots), eqSl a b = true → a = b
 | [], [], _ => rfl
 | [], _ :: _, h => by simp [eqSl] at h
 | _ :: _, [], h => by simp [eqSl] at h
 | l :: r, m :: q, h => by
  simp only [eqSl] at h
  split at h
  ·rename_i h1; rw [SV.beqL_eq _ _ h1, eqSl_eq r q h]
  ·cases h
theorem slots_sb (hρ : ρ.Ok) (hp : Holds ρ pc) {t a : Slots} {X : Array Value} (he : eqSl (subSl pc S t) a = true) (h : SlotsR ρ a X) : SlotsR (ρ.sb S) t X := by
 intro i
 rw [← h i, ← eqSl_eq _ _ he, get2_subSl]
 cases get2 t i <;> simp [SV.sb_den hρ hp]
theorem eqNs_eq : ∀ (a b : List Nat), eqNs a b = true → a = b
 | [], [], _ => rfl
 | [], _ :: _, h => by simp [eqNs] at h
 | _ :: _, [], h => by simp [eqNs] at h
 | l :: r, m :: q, h => by
  simp only [eqNs] at h
  split at h
  ·rename_i h1; rw [Nat.eq_of_beq_eq_true h1, eqNs_eq r q h]
  ·cases h
theorem subNs_eq (l : List Nat) : subNs S l = l.map (nmA S.a) := by
  induction l with
  | nil => rfl
  | cons v l ih => simp [subNs, ih]
theorem stLoop_eq (a b : LoopState) (h : stLoop a = stLoop b) : a = b := by
 cases a <;> cases b <;> first | rfl | (simp [stLoop] at h)
def sameCode : SObj → SObj → Prop
 | .loop _ _ _ _ _ as body _, .loop _ _ _ _ _ as' body' _ => as' = as ∧ body' = body
 | _, _ => True
theorem obj_sb (hρ : ρ.Ok) (hp : Holds ρ pc) {t a : SObj} {obj : Obj} (hf : fitO pc S t a = true) (hc : sameCode t a) (h : ObjR ρ a obj) : ObjR (ρ.sb S) t obj := by
 unfold fitO at hf
 split at hf
 ·rename_i l ty m ty'
  split at hf
  ·rename_i h1
   have e1 := Nat.eq_of_beq_eq_true h1
   have e2 := SV.beqL_eq _ _ hf
   simp only [ObjR] at h ⊢
   rw [h, ← e2, SV.sbL_den hρ hp, e1]
  ·cases hf
 ·rename_i l ty c z m ty' d z'
  split at hf
  ·rename_i h1
   split at hf
   ·rename_i h2
    split at hf
    ·rename_i h3
     have e1 := Nat.eq_of_beq_eq_true h1
     have e2 := Nat.eq_of_beq_eq_true h2
     have e3 := Nat.eq_of_beq_eq_true h3
     have e4 := SV.beqL_eq _ _ hf
     obtain ⟨rest, lo, hi, ho, q1, q2, q3, q4⟩ := h
     have hl : m.length = l.length := by rw [← e4, sbL_eq]; simp
     refine ⟨rest, lo, hi, ?_, ?_, ?_, ?_, ?_⟩
     ·rw [ho, ← e4, SV.sbL_den hρ hp, e1]
     ·rw [← hl]; exact q1
     ·rw [← hl, e3]
      simp only [Rho.sb]; rw [e2]; exact q2
     ·simp only [Rho.sb]; rw [e2]; exact q3
     ·rw [e3]; exact q4
    ·cases hf
   ·cases hf
  ·cases hf
 ·rename_i l x ks ty c z m y js ty' d z'
  split at hf
  ·rename_i h1
   split at hf
   ·rename_i h2
    split at hf
    ·rename_i h3
     split at hf
     ·rename_i h4
      split at hf
      ·rename_i h5
       have e1 := Nat.eq_of_beq_eq_true h1
       have e2 := Nat.eq_of_beq_eq_true h2
       have e3 := Nat.eq_of_beq_eq_true h3
       have e4 := ksEq_eq _ _ h4
       have e5 := IE.beq_eq _ _ h5
       have e6 := LE.beq_eq _ _ hf
       subst e1; subst e3; subst e4
       have d1 := LE.sb_den (S := S) hρ hp l
       have d2 := IE.sb_den (S := S) hρ hp x
       rw [e6] at d1
       rw [e5] at d2
       simp only [ObjR] at h ⊢
       rw [← d1, ← d2]
       have : (ρ.sb S).a c = ρ.a d := by rw [← e2]; rfl
       rw [this]
       exact h
      ·cases hf
     ·cases hf
    ·cases hf
   ·cases hf
  ·cases hf
 ·rename_i p l n k q ty p' m n' k' q' ty'
  obtain ⟨h1, hf⟩ := ifb hf
  obtain ⟨h2, hf⟩ := ifb hf
  obtain ⟨h3, hf⟩ := ifb hf
  obtain ⟨h4, hf⟩ := ifb hf
  obtain ⟨h5, hf⟩ := ifb hf
  have e1 := Nat.eq_of_beq_eq_true h1
  have e2 := Nat.eq_of_beq_eq_true h2
  have e3 := (keq_iff _ _).1 h3
  have e4 := SV.beqL_eq _ _ h4
  have e5 := SV.beqL_eq _ _ h5
  have e6 := LE.beq_eq _ _ hf
  have d1 := LE.sb_den (S := S) hρ hp l
  rw [e6] at d1
  subst e1; subst e2; subst e3
  simp only [ObjR] at h ⊢
  rw [← d1, ← SV.sbL_den hρ hp, ← SV.sbL_den hρ hp, e4, e5]
  exact h
 ·rename_i st p fn tm ps as bo d st' p' fn' tm' ps' as' bo' d'
  split at hf
  ·rename_i h1
   split at hf
   ·rename_i h2
    split at hf
    ·rename_i h3
     split at hf
     ·rename_i h4
      split at hf
      ·rename_i h5
       split at hf
       ·rename_i h6
        have e1 := stLoop_eq _ _ (Nat.eq_of_beq_eq_true h1)
        have e2 : p = none := by cases p with
         | none => rfl
         | some c => simp [noPend] at h2
        have e3 : p' = none := by cases p' with
         | none => rfl
         | some c => simp [noPend] at h3
        have e4 := Nat.eq_of_beq_eq_true h4
        have e6 := eqNs_eq _ _ h6
        have e7 := Nat.eq_of_beq_eq_true hf
        obtain ⟨c1, c2⟩ := hc
        obtain ⟨X, hX, k1, k2, k3, ho⟩ := h
        subst e1; subst e2; subst e3; subst e4; subst e6; subst c1; subst c2
        refine ⟨X, slots_sb hρ hp h5 hX, k1, k2, by simp, ?_⟩
        rw [ho]
        simp only [Rho.sb]
        rw [e7]
       ·cases hf
      ·cases hf
     ·cases hf
    ·cases hf
   ·cases hf
  ·cases hf
 ·rename_i s s'
  have : s = s' := by simpa using hf
  subst this
  exact h
 ·rename_i x y l c x' y' l' c'
  obtain ⟨h1, hf⟩ := ifb hf
  obtain ⟨h2, hf⟩ := ifb hf
  obtain ⟨h3, hf⟩ := ifb hf
  have e1 := SV.beqL_eq _ _ h1
  have e2 := SV.beqL_eq _ _ h2
  have e3 := eqNs_eq _ _ h3
  have e4 := Nat.eq_of_beq_eq_true hf
  have hl : ∀ l : List SV, (SV.sbL pc S l).length = l.length := fun l => by rw [sbL_eq]; simp
  subst e3; subst e4
  simp only [ObjR] at h ⊢
  rw [← SV.sbL_den hρ hp, ← SV.sbL_den hρ hp, e1, e2, ← hl x, ← hl y, e1, e2]
  exact h
 ·cases hf
theorem apartN_ok : ∀ (t : SHeap) (seen : List Nat), apartN S t seen = true → (∀ n o, lk t n = some o → nmA S.a n ∉ seen) ∧ (∀ n m o p, lk t n = some o → lk t m = some p → nmA S.a n = nmA S.a m → n = m)
 | [], seen, _ => ⟨fun n o h => by simp [lk_nil] at h, fun n m o p h => by simp [lk_nil] at h⟩
 | (k, q) :: t, seen, h => by
  simp only [apartN] at h
  split at h
  ·cases h
  ·rename_i h1
   obtain ⟨a, b⟩ := apartN_ok t _ h
   have h1' : nmA S.a k ∉ seen := fun hm => h1 ((memN_iff _ _).2 hm)
   refine ⟨?_, ?_⟩
   ·intro n o hl
    rw [lk_cons] at hl
    split at hl
    ·rename_i e; subst e; exact h1'
    ·exact fun hm => a n o hl (List.mem_cons_of_mem _ hm)
   ·intro n m o p hn hm he
    rw [lk_cons] at hn hm
    split at hn
    ·rename_i e1
     subst e1
     split at hm
     ·rename_i e2; exact e2
     ·exact absurd (List.mem_cons.2 (.inl he.symm)) (a m p hm)
    ·split at hm
     ·rename_i e2
      subst e2
      exact absurd (List.mem_cons.2 (.inl he)) (a n o hn)
     ·exact b n m o p hn hm he
theorem inRows_ok {n : Nat} : ∀ {t : SHeap}, inRows n t = true → ∃ m tot ks ty cn sz, (m, SObj.rowl (.var n) tot ks ty cn sz) ∈ t
 | [], h => by cases h
 | (m, o) :: t, h => by
  unfold inRows at h
  split at h
  ·rename_i hq; cases hq
  ·rename_i m' q tot ks ty cn sz l hq
   cases hq
   split at h
   ·rename_i hn
    have : n = q := by simpa using hn
    subst this
    exact ⟨_, _, _, _, _, _, List.mem_cons_self ..⟩
   ·obtain ⟨m1, a1, a2, a3, a4, a5, h1⟩ := inRows_ok h
    exact ⟨m1, a1, a2, a3, a4, a5, List.mem_cons_of_mem _ h1⟩
  ·rename_i l _ hq
   cases hq
   obtain ⟨m1, a1, a2, a3, a4, a5, h1⟩ := inRows_ok h
   exact ⟨m1, a1, a2, a3, a4, a5, List.mem_cons_of_mem _ h1⟩
theorem fitH_mem {h : SHeap} : ∀ (t : SHeap), fitH pc S h t = true → ∀ n o, (n, o) ∈ t → ∃ a, lk h (nmA S.a n) = some a ∧ fitO pc S o a = true
 | [], _, n, o, hl => by cases hl
 | (m, p) :: t, hf, n, o, hl => by
  simp only [fitH] at hf
  split at hf
  ·rename_i a ha
   split at hf
   ·rename_i h1
    rcases List.mem_cons.1 hl with e | hl
    ·cases e; exact ⟨a, ha, h1⟩
    ·exact fitH_mem t hf n o hl
   ·cases hf
  ·cases hf
theorem okLs_ok (hρ : ρ.Ok) (hp : Holds ρ pc) {roms : List (Nat × (Nat × List CK))} (hr : RTyped roms ρ) {t : SHeap} : ∀ (l : List (Nat × LE)), okLs roms pc t l = true → ∀ n e, lk l n = some e → (oddN n = true → Typed byteK (e.den ρ)) ∧ (inRows n t = true ∨ ((e.den ρ).length : Int) ≤ 9223372036854775807)
 | [], _, n, e, h => by rw [lk_nil] at h; cases h
 | (m, f) :: l, hi, n, e, h => by
  simp only [okLs] at hi
  split at hi
  ·rename_i h1
   split at hi
   ·rename_i h2
    rw [lk_cons] at h
    split at h
    ·rename_i he
     subst he
     cases h
     unfold oddTy at h1
     unfold lenTy at h2
     refine ⟨fun ho => ?_, ?_⟩
     ·rw [if_pos ho] at h1
      exact typedB_ok hρ hp hr _ h1
     ·by_cases hin : inRows m t = true
      ·exact .inl hin
      ·rw [if_neg hin] at h2
       split at h2
       ·rename_i h3
        have := dec_le hρ hp h3
        rw [lenE_den hρ hp, lit_den] at this
        exact .inr this
       ·cases h2
    ·exact okLs_ok hρ hp hr l hi n e h
   ·cases hi
  ·cases hi
theorem lkMem {α : Type} : ∀ {l : List (Nat × α)} {n : Nat} {o : α}, lk l n = some o → (n, o) ∈ l
 | [], n, o, h => by rw [lk_nil] at h; cases h
 | (k, p) :: l, n, o, h => by
  rw [lk_cons] at h
  split at h
  ·rename_i e; subst e; cases h; exact List.mem_cons_self ..
  ·exact List.mem_cons_of_mem _ (lkMem h)
theorem lkRmAll : ∀ (g : List Nat) (h : SHeap) (n : Nat), lk (rmAll h g) n = if n ∈ g then none else lk h n
 | [], h, n => by simp [rmAll]
 | m :: g, h, n => by
  simp only [rmAll]
  rw [lkRmAll g, lk_rmH]
  by_cases h1 : n ∈ g
  ·simp [h1]
  ·by_cases h2 : n = m
   ·simp [h1, h2]
   ·simp [h1, h2]
theorem sb_OkZ (hρ : ρ.Ok) (hp : Holds ρ pc) {pc0 : List BE} (hp0 : Holds ρ pc0) {roms : List (Nat × (Nat × List CK))} (hr : RTyped roms ρ) {t : SHeap} {h : SHeap} {w : World} (H : HeapR ρ b0 h w) (h1 : insK pc S.i = true) (h2 : okLs roms pc t S.l = true) (hz : (ρ.sb S).z = ρ.z) (h4 : fitH pc0 S h t = true) : (ρ.sb S).Ok := by
 have ol := okLs_ok hρ hp hr _ h2
 refine ⟨?_, ?_, ?_, ?_, ?_, ?_⟩
 ·intro k n
  show kmin k ≤ (match lkI S.i k n with | some e => e.den ρ | none => ρ.i k n)
  split
  ·rename_i e he; exact (insK_ok hρ hp _ h1 k n e he).1
  ·exact hρ.lo k n
 ·intro k n
  show (match lkI S.i k n with | some e => e.den ρ | none => ρ.i k n) ≤ kmax k
  split
  ·rename_i e he; exact (insK_ok hρ hp _ h1 k n e he).2
  ·exact hρ.hi k n
 ·intro n
  show (((match lk S.l n with | some e => e.den ρ | none => ρ.l n) : LV).length : Int) ≤ _
  split
  ·rename_i e he
   rcases (ol n e he).2 with hin | hle
   ·obtain ⟨m, tot, ks, ty, cn, sz, hm⟩ := inRows_ok hin
    obtain ⟨a, ha, hf⟩ := fitH_mem t h4 m _ hm
    cases a with
    | rowl y tot2 js ty2 d z2 =>
     simp only [fitO] at hf
     split at hf
     ·split at hf
      ·split at hf
       ·split at hf
        ·split at hf
         ·have e6 := LE.beq_eq _ _ hf
          simp only [LE.sb, he] at e6
          subst e6
          obtain ⟨obj, ho, rest, lo, hi, rfl, _, hcap, hmx, hpos, hks, htc, _⟩ := H.at_ _ _ ha
          have hfl := flat_len htc
          rw [hks] at hfl
          have h5 : (e.den ρ).length * z2 ≤ ρ.a d * z2 := by omega
          have h6 := Nat.le_of_mul_le_mul_right h5 hpos
          simp only [maxLen] at hmx
          omega
         ·cases hf
        ·cases hf
       ·cases hf
      ·cases hf
     ·cases hf
    | cells _ _ => simp [fitO] at hf
    | row _ _ _ _ => simp [fitO] at hf
    | mix _ _ _ _ _ _ => simp [fitO] at hf
    | loop _ _ _ _ _ _ _ _ => simp [fitO] at hf
    | defd _ => simp [fitO] at hf
    | mapo _ _ _ _ => simp [fitO] at hf
   ·exact hle
  ·exact hρ.ll n
 ·intro n hodd
  show Typed byteK (match lk S.l n with | some e => e.den ρ | none => ρ.l n)
  split
  ·rename_i e he; exact (ol n e he).1 hodd
  ·exact hρ.lodd n hodd
 ·intro r; rw [hz]; exact hρ.rl r
 ·intro n a hodd; rw [hz]; exact hρ.fodd n a hodd
theorem plainH_ok : ∀ {h : SHeap}, plainH h = true → ∀ n o, lk h n = some o → plainO o = true
 | [], _, n, o, hl => by rw [lk_nil] at hl; cases hl
 | (k, p) :: h, hh, n, o, hl => by
  obtain ⟨h1, h2⟩ := ifb hh
  rw [lk_cons] at hl
  split at hl
  ·cases hl; exact h1
  ·exact plainH_ok h2 n o hl
theorem sameCode_plain {o a : SObj} (h : plainO o = true) : sameCode o a := by
 cases o <;> first | trivial | (simp [plainO] at h)
theorem ObjR.of_sb (hρ : ρ.Ok) (hp : Holds ρ pc) {o : SObj} {obj : Obj} (hpl : plainO o = true) (h : ObjR (ρ.sb S) o obj) : ObjR ρ (o.sb pc S) obj := by
 have hl : ∀ l : List SV, (SV.sbL pc S l).length = l.length := fun l => by rw [sbL_eq]; simp
 cases o with
 | cells cs t =>
  simp only [ObjR, SObj.sb] at h ⊢
  rw [SV.sbL_den hρ hp]; exact h
 | row cs t cn sz =>
  obtain ⟨rest, lo, hi, ho, q1, q2, q3, q4⟩ := h
  exact ⟨rest, lo, hi, by rw [SV.sbL_den hρ hp]; exact ho, by rw [hl]; exact q1, by rw [hl]; exact q2, q3, q4⟩
 | rowl c tot ks t cn sz =>
  simp only [ObjR, SObj.sb] at h ⊢
  rw [LE.sb_den hρ hp, IE.sb_den hρ hp]
  exact h
 | mix pre c len k post t =>
  simp only [ObjR, SObj.sb] at h ⊢
  rw [LE.sb_den hρ hp, SV.sbL_den hρ hp, SV.sbL_den hρ hp]
  exact h
 | mapo ks vs bs c =>
  simp only [ObjR, SObj.sb] at h ⊢
  rw [SV.sbL_den hρ hp, SV.sbL_den hρ hp, hl, hl]
  exact h
 | loop st pend fn tmps ps as body d => simp [plainO] at hpl
 | defd s => simp [plainO] at hpl
theorem belowA_ok {nx : Nat} : ∀ {l : List Nat}, belowA nx l = true → ∀ n ∈ l, n < nx
 | [], _, n, hn => by cases hn
 | k :: l, h, n, hn => by
  obtain ⟨h1, h2⟩ := ifb h
  rcases List.mem_cons.1 hn with rfl | hn
  ·simpa [Nat.blt_eq] using h1
  ·exact belowA_ok h2 n hn
theorem belowV_ok {nx : Nat} : ∀ {l : List (Nat × SV)}, belowV nx l = true → ∀ n v, lk l n = some v → ∀ m ∈ v.names, m < nx
 | [], _, n, v, hl => by rw [lk_nil] at hl; cases hl
 | (k, u) :: l, h, n, v, hl => by
  obtain ⟨h1, h2⟩ := ifb h
  rw [lk_cons] at hl
  split at hl
  ·cases hl; exact belowA_ok h1
  ·exact belowV_ok h2 n v hl
mutual
theorem SV.sb_names {nx : Nat} (hv : ∀ n v, lk S.v n = some v → ∀ m ∈ v.names, m < nx) : ∀ (v : SV), ∀ m ∈ (v.sb pc S).names, (∃ k ∈ v.names, m = nmA S.a k) ∨ m < nx
 | .bool b, m, h => by simp [SV.sb, SV.names] at h
 | .int k e, m, h => by simp [SV.sb, SV.names] at h
 | .ptr n off, m, h => by simp [SV.sb, SV.names] at h ⊢; exact .inl h
 | .slice n off len cap, m, h => by simp [SV.sb, SV.names] at h ⊢; exact .inl h
 | .func fn f c, m, h => by
  have key : ∀ x, x ∈ SV.namesL (SV.sbL pc S f) ++ SV.namesL (SV.sbL pc S c) → (∃ k ∈ SV.namesL f ++ SV.namesL c, x = nmA S.a k) ∨ x < nx := by
   intro x hx
   rcases List.mem_append.1 hx with hx | hx
   ·rcases SV.sbL_names hv f x hx with ⟨k, h1, h2⟩ | h1
    ·exact .inl ⟨k, List.mem_append.2 (.inl h1), h2⟩
    ·exact .inr h1
   ·rcases SV.sbL_names hv c x hx with ⟨k, h1, h2⟩ | h1
    ·exact .inl ⟨k, List.mem_append.2 (.inr h1), h2⟩
    ·exact .inr h1
  cases fn with
  | yield l =>
   simp only [SV.sb, subFn, SV.names, List.mem_cons] at h ⊢
   rcases h with rfl | h
   ·exact .inl ⟨l, .inl rfl, rfl⟩
   ·rcases key m h with ⟨k, h1, h2⟩ | h1
    ·exact .inl ⟨k, .inr h1, h2⟩
    ·exact .inr h1
  | _ =>
   simp only [SV.sb, subFn, SV.names] at h ⊢
   exact key m h
 | .iface t v, m, h => by simp only [SV.sb, SV.names] at h ⊢; exact SV.sb_names hv v m h
 | .agg cs, m, h => by simp only [SV.sb, SV.names] at h ⊢; exact SV.sbL_names hv cs m h
 | .tup vs, m, h => by simp only [SV.sb, SV.names] at h ⊢; exact SV.sbL_names hv vs m h
 | .opq n, m, h => by
  simp only [SV.sb] at h
  split at h
  ·rename_i v hq; exact .inr (hv n v hq m h)
  ·simp [SV.names] at h
 | .const v, m, h => by simp [SV.sb, SV.names] at h
 | .str bs, m, h => by simp [SV.sb, SV.names] at h
 | .sl n cn sz off len, m, h => by
  simp only [SV.sb, SV.names, List.mem_cons, List.not_mem_nil, or_false] at h ⊢
  rcases h with rfl | rfl
  ·exact .inl ⟨n, .inl rfl, rfl⟩
  ·exact .inl ⟨cn, .inr rfl, rfl⟩
 | .rom r off len cap, m, h => by simp [SV.sb, SV.names] at h
 | .rptr r i c, m, h => by simp [SV.sb, SV.names] at h
 | .sll n cn sz off len cap, m, h => by
  simp only [SV.sb, SV.names, List.mem_cons, List.not_mem_nil, or_false] at h ⊢
  rcases h with rfl | rfl
  ·exact .inl ⟨n, .inl rfl, rfl⟩
  ·exact .inl ⟨cn, .inr rfl, rfl⟩
 | .lptr n sz i c, m, h => by simp [SV.sb, SV.names] at h ⊢; exact .inl h
 | .sle n cn sz off l, m, h => by
  simp only [SV.sb, SV.names, List.mem_cons, List.not_mem_nil, or_false] at h ⊢
  rcases h with rfl | rfl
  ·exact .inl ⟨n, .inl rfl, rfl⟩
  ·exact .inl ⟨cn, .inr rfl, rfl⟩
 | .map n, m, h => by simp [SV.sb, SV.names] at h ⊢; exact .inl h
 | .lstr l, m, h => by simp [SV.sb, SV.names] at h
 | .cel l i j, m, h => by simp [SV.sb, SV.names] at h
theorem SV.sbL_names {nx : Nat} (hv : ∀ n v, lk S.v n = some v → ∀ m ∈ v.names, m < nx) : ∀ (l : List SV), ∀ m ∈ SV.namesL (SV.sbL pc S l), (∃ k ∈ SV.namesL l, m = nmA S.a k) ∨ m < nx
 | [], m, h => by simp [SV.sbL, SV.namesL] at h
 | v :: l, m, h => by
  simp only [SV.sbL, SV.namesL, List.mem_append] at h ⊢
  rcases h with h | h
  ·rcases SV.sb_names hv v m h with ⟨k, h1, h2⟩ | h1
   ·exact .inl ⟨k, .inl h1, h2⟩
   ·exact .inr h1
  ·rcases SV.sbL_names hv l m h with ⟨k, h1, h2⟩ | h1
   ·exact .inl ⟨k, .inr h1, h2⟩
   ·exact .inr h1
end
theorem SObj.sb_names {nx : Nat} (hv : ∀ n v, lk S.v n = some v → ∀ m ∈ v.names, m < nx) {o : SObj} (hpl : plainO o = true) : ∀ m ∈ (o.sb pc S).names, (∃ k ∈ o.names, m = nmA S.a k) ∨ m < nx := by
 intro m h
 cases o with
 | cells cs t => simp only [SObj.sb, SObj.names] at h ⊢; exact SV.sbL_names hv cs m h
 | row cs t cn sz =>
  simp only [SObj.sb, SObj.names, List.mem_cons] at h ⊢
  rcases h with rfl | h
  ·exact .inl ⟨cn, .inl rfl, rfl⟩
  ·rcases SV.sbL_names hv cs m h with ⟨k, h1, h2⟩ | h1
   ·exact .inl ⟨k, .inr h1, h2⟩
   ·exact .inr h1
 | rowl c tot ks t cn sz =>
  simp only [SObj.sb, SObj.names, List.mem_cons, List.not_mem_nil, or_false] at h ⊢
  exact .inl ⟨cn, rfl, h⟩
 | mix pre c len k post t =>
  simp only [SObj.sb, SObj.names, List.mem_append] at h ⊢
  rcases h with h | h
  ·rcases SV.sbL_names hv pre m h with ⟨k, h1, h2⟩ | h1
   ·exact .inl ⟨k, .inl h1, h2⟩
   ·exact .inr h1
  ·rcases SV.sbL_names hv post m h with ⟨k, h1, h2⟩ | h1
   ·exact .inl ⟨k, .inr h1, h2⟩
   ·exact .inr h1
 | mapo ks vs bs c =>
  simp only [SObj.sb, SObj.names, List.mem_append] at h ⊢
  rcases h with h | h
  ·rcases SV.sbL_names hv ks m h with ⟨k, h1, h2⟩ | h1
   ·exact .inl ⟨k, .inl h1, h2⟩
   ·exact .inr h1
  ·rcases SV.sbL_names hv vs m h with ⟨k, h1, h2⟩ | h1
   ·exact .inl ⟨k, .inr h1, h2⟩
   ·exact .inr h1
 | loop st pend fn tmps ps as body d => simp [plainO] at hpl
 | defd s => simp [plainO] at hpl
theorem sbH_some : ∀ {hh : SHeap} {m : Nat} {o : SObj}, lk (sbH pc S hh) m = some o → ∃ n p, lk hh n = some p ∧ m = nmA S.a n ∧ o = p.sb pc S
 | [], m, o, h => by rw [sbH, lk_nil] at h; cases h
 | (k, q) :: hh, m, o, h => by
  rw [sbH, lk_cons] at h
  split at h
  ·rename_i e
   cases h
   exact ⟨k, q, by rw [lk_cons, if_pos rfl], e.symm, rfl⟩
  ·rename_i e
   obtain ⟨n, p, h1, h2, h3⟩ := sbH_some h
   exact ⟨n, p, by rw [lk_cons, if_neg (fun h => e (by rw [h]; exact h2.symm))]; exact h1, h2, h3⟩
theorem sbH_none : ∀ {hh : SHeap} {m : Nat}, lk (sbH pc S hh) m = none → ∀ n p, lk hh n = some p → nmA S.a n ≠ m
 | [], m, h, n, p, hl => by rw [lk_nil] at hl; cases hl
 | (k, q) :: hh, m, h, n, p, hl => by
  rw [sbH, lk_cons] at h
  split at h
  ·cases h
  ·rename_i e
   rw [lk_cons] at hl
   split at hl
   ·rename_i e2; subst e2; exact e
   ·exact sbH_none h n p hl
theorem goneM_mem {hq : SHeap} : ∀ {hp : SHeap} {n : Nat} {o : SObj}, lk hp n = some o → lk hq n = none → n ∈ goneM hq hp
 | [], n, o, h, _ => by rw [lk_nil] at h; cases h
 | (k, p) :: hp, n, o, h, hn => by
  rw [lk_cons] at h
  unfold goneM
  split at h
  ·rename_i e; subst e
   rw [hn]
   exact List.mem_cons_self ..
  ·have ih := goneM_mem h hn
   split
   ·exact ih
   ·exact List.mem_cons_of_mem _ ih
theorem shiftM_lk (nx c : Nat) (A : List (Nat × Nat)) : ∀ (k n : Nat), lk (shiftM nx c k ++ A) n = if c ≤ n ∧ n < c + k then some (nx + (n - c)) else lk A n
 | 0, n => by rw [shiftM, List.nil_append, if_neg (by omega)]
 | k + 1, n => by
  rw [shiftM, List.cons_append, lk_cons, shiftM_lk nx c A k n]
  by_cases h : c + k = n
  ·rw [if_pos h, if_pos (by omega)]
   congr 1; omega
  ·rw [if_neg h]
   by_cases h2 : c ≤ n ∧ n < c + k
   ·rw [if_pos h2, if_pos (by omega)]
   ·rw [if_neg h2, if_neg (by omega)]
theorem belowL_ok {nx c : Nat} : ∀ {l : List Nat}, belowL S nx c l = true → ∀ n ∈ l, n < c → nmA S.a n < nx
 | [], _, n, hn, _ => by cases hn
 | k :: l, h, n, hn, hc => by
  obtain ⟨h1, h2⟩ := ifb h
  rcases List.mem_cons.1 hn with rfl | hn
  ·rw [if_pos (by simpa [Nat.blt_eq] using hc)] at h1
   simpa [Nat.blt_eq] using h1
  ·exact belowL_ok h2 n hn hc
theorem heapNs_mem : ∀ {h : SHeap} {n : Nat} {o : SObj}, lk h n = some o → n ∈ heapNs h ∧ ∀ m ∈ o.names, m ∈ heapNs h
 | [], n, o, hl => by rw [lk_nil] at hl; cases hl
 | (k, p) :: h, n, o, hl => by
  rw [lk_cons] at hl
  unfold heapNs
  split at hl
  ·rename_i e; subst e; cases hl
   exact ⟨List.mem_cons_self .., fun m hm => List.mem_cons_of_mem _ (List.mem_append.2 (.inl hm))⟩
  ·obtain ⟨h1, h2⟩ := heapNs_mem hl
   exact ⟨List.mem_cons_of_mem _ (List.mem_append.2 (.inr h1)), fun m hm => List.mem_cons_of_mem _ (List.mem_append.2 (.inr (h2 m hm)))⟩
theorem romsSub_ok {roms : Roms} : ∀ {cr : Roms}, romsSub roms cr = true → ∀ r esz ks, lk cr r = some (esz, ks) → lk roms r = some (esz, ks)
 | [], _, r, esz, ks, hl => by rw [lk_nil] at hl; cases hl
 | (q, (e, k)) :: t, h, r, esz, ks, hl => by
  unfold romsSub at h
  split at h
  ·rename_i e' k' hq
   obtain ⟨h1, h2⟩ := ifb h
   obtain ⟨h3, h4⟩ := ifb h2
   rw [lk_cons] at hl
   split at hl
   ·rename_i eq; subst eq
    cases hl
    rw [hq, show e = e' by simpa using h1, ksEq_eq _ _ h3]
   ·exact romsSub_ok h4 r esz ks hl
  ·cases h
end
section
variable {P : Program} {T : Tab} {ρ : Rho} {b0 : World} {pc : List BE} {h : SHeap} {nx : Nat} {w : World}
theorem useM_ok (hρ : ρ.Ok) (hp : Holds ρ pc) (hn : HNames nx h) (hO : OracOk P b0 T.orac ρ) (H : HeapR ρ b0 h w) {c : Mtr} (hc : c ∈ T.orac.mem) {args : List SV} {u : UsedX} (hu : useM T.orac.rom pc h nx c args = .use u) :
  Calls P c.f (SV.denL ρ args).toArray w fun e w' => ∃ ρ', e = endS ρ' u.val ∧ Move ρ ρ' b0 h u.heap nx u.next w w' ∧ NamesV u.next u.val := by
 obtain ⟨S, h1, h2, h3, h4, h5, h6, h7, h8, h9, h10, rfl⟩ := useM_use hu
 have hC := hO.mem c hc
 have hpT : Holds ρ (.lit true :: pc) := hp.cons (p := .lit true) (by simp only [BE.den])
 have hzz : ∀ σ : Rho, (σ.sb S).z = σ.z := by
  intro σ
  show ({ σ.z with rl := fun r => match lk S.r r with | some l => l.den σ | none => σ.z.rl r } : Env) = σ.z
  rw [h6]
  simp only [lk_nil]
 have hz := hzz ρ
 have hok : (ρ.sb S).Ok := sb_OkZ hρ hpT hp hO.rom.typed H h4 h5 hz h2
 have hfit : ∀ n o, lk c.hp n = some o → ∃ a, lk h (nmA S.a n) = some a ∧ fitO pc S o a = true := fun n o hl => fitH_mem c.hp h2 n o (lkMem hl)
 have hap := (apartN_ok c.hp [] h3).2
 have Hc : HeapR (ρ.sb S) b0 c.hp w := by
  refine ⟨H.g0, ?_, ?_, ?_⟩
  ·intro n o hl
   obtain ⟨a, ha, hf⟩ := hfit n o hl
   obtain ⟨obj, q1, q2⟩ := H.at_ _ _ ha
   exact ⟨obj, q1, obj_sb hρ hp hf (sameCode_plain (plainH_ok hC.hp.1 n o hl)) q2⟩
  ·intro n o hl
   obtain ⟨a, ha, _⟩ := hfit n o hl
   exact H.own _ _ ha
  ·intro n m o p hl hm he
   obtain ⟨a, ha, _⟩ := hfit n o hl
   obtain ⟨b, hb, _⟩ := hfit m p hm
   exact hap n m o p hl hm (H.inj _ _ _ _ ha hb he)
 have hroms : RomsOk c.roms b0 (ρ.sb S) := by
  refine ⟨by rw [hz]; exact hO.rom.1, fun r esz ks hr => ?_⟩
  rw [hz]
  exact hO.rom.2 r esz ks (romsSub_ok h8 r esz ks hr)
 have hcall := hC.call (ρ.sb S) b0 w ⟨hok, by rw [hz]; exact hO.F⟩ hroms Hc (preOk_ok hρ hp c.pre h10)
 rw [show SV.denL (ρ.sb S) c.pat = SV.denL ρ args by rw [← SV.beqL_eq _ _ h1, SV.sbL_den hρ hp]] at hcall
 refine hcall.mono ?_
 rintro e w' ⟨ρ1, g1, rfl, H1, fr⟩
 obtain ⟨nm1, nm2, nm3, nm4, nm5, nm6⟩ := hC.names
 obtain ⟨d, hd⟩ : ∃ d, d = Nat.sub c.cnt c.cnt0 := ⟨_, rfl⟩
 have hd' : c.cnt = c.cnt0 + d := by
  have : d = c.cnt - c.cnt0 := hd
  omega
 obtain ⟨S2, hS2⟩ : ∃ S2 : Sub, S2 = { S with a := shiftM nx c.cnt0 (Nat.sub c.cnt c.cnt0) ++ S.a } := ⟨_, rfl⟩
 rw [← hS2, ← hd]
 have hnm : ∀ n, c.cnt0 ≤ n → n < c.cnt → nmA S2.a n = nx + (n - c.cnt0) := by
  intro n q1 q2
  rw [hS2, ← hd]
  unfold nmA
  simp only
  rw [shiftM_lk, if_pos (by omega)]
 have hnm0 : ∀ n, n < c.cnt0 → nmA S2.a n = nmA S.a n := by
  intro n q1
  rw [hS2, ← hd]
  unfold nmA
  simp only
  rw [shiftM_lk, if_neg (by omega)]
 have hSv := belowV_ok h7
 have hS2v : ∀ n v, lk S2.v n = some v → ∀ m ∈ v.names, m < nx := by rw [hS2]; exact hSv
 have hbel := belowL_ok h9
 obtain ⟨ρ2, hρ2⟩ : ∃ ρ2 : Rho, ρ2 = { ρ with a := fun n => if nx ≤ n ∧ n < nx + d then ρ1.a (n - nx + c.cnt0) else ρ.a n } := ⟨_, rfl⟩
 have g2 : Agr ρ ρ2 nx (nx + d) := by
  subst hρ2
  exact ⟨rfl, rfl, rfl, rfl, rfl, fun n hn => by
   have : ¬ (nx ≤ n ∧ n < nx + d) := by omega
   simp [this]⟩
 have hρ2ok := g2.ok hρ
 have hp2 : Holds ρ2 pc := (g2.holds).2 hp
 have sm := g2.same
 have same : Same ρ1 (ρ2.sb S2) := by
  refine ⟨?_, ?_, ?_, ?_, ?_⟩
  ·rw [g1.i]
   funext k n
   show (match lkI S2.i k n with | some e => e.den ρ2 | none => ρ2.i k n) = (match lkI S.i k n with | some e => e.den ρ | none => ρ.i k n)
   rw [hS2]
   cases lkI S.i k n <;> simp [IE.den_same sm, sm.i]
  ·rw [g1.b]
   funext n
   show (match lk S2.b n with | some e => e.den ρ2 | none => ρ2.b n) = (match lk S.b n with | some e => e.den ρ | none => ρ.b n)
   rw [hS2]
   cases lk S.b n <;> simp [BE.den_same sm, sm.b]
  ·rw [g1.l]
   funext n
   show (match lk S2.l n with | some e => e.den ρ2 | none => ρ2.l n) = (match lk S.l n with | some e => e.den ρ | none => ρ.l n)
   rw [hS2]
   cases lk S.l n <;> simp [LE.den_same sm, sm.l]
  ·rw [g1.v]
   funext n
   show (match lk S2.v n with | some e => e.den ρ2 | none => ρ2.v n) = (match lk S.v n with | some e => e.den ρ | none => ρ.v n)
   rw [hS2]
   cases hq : lk S.v n with
   | none => simp [hq, sm.v]
   | some v =>
    simp only [hq]
    exact SV.den_agr g2 v (fun m hm => .inl (hSv n v hq m hm))
  ·rw [g1.z, hz]
   have e1 : (ρ2.sb S2).z = (ρ2.sb S).z := by rw [hS2]; rfl
   rw [e1, hzz ρ2, sm.z]
 have ha : ∀ n ∈ namesM c, n < c.cnt → (ρ2.sb S2).a n = ρ1.a n := by
  intro n hm hlt
  show ρ2.a (nmA S2.a n) = _
  by_cases q : n < c.cnt0
  ·have hb := hbel n hm q
   rw [hnm0 n q, g1.a n (.inl q)]
   show ρ2.a (nmA S.a n) = ρ.a (nmA S.a n)
   rw [hρ2]
   have : ¬ (nx ≤ nmA S.a n ∧ nmA S.a n < nx + d) := by omega
   simp [this]
  ·rw [hnm n (by omega) hlt, hρ2]
   have : nx ≤ nx + (n - c.cnt0) ∧ nx + (n - c.cnt0) < nx + d := by omega
   simp only [this, and_self, if_true]
   congr 1; omega
 have mres : ∀ n ∈ c.res.names, n ∈ namesM c := fun n hm => List.mem_append.2 (.inl hm)
 have mkey : ∀ n o, lk c.hq n = some o → n ∈ namesM c ∧ ∀ m ∈ o.names, m ∈ namesM c := fun n o hl => ⟨List.mem_append.2 (.inr (heapNs_mem hl).1), fun m hm => List.mem_append.2 (.inr ((heapNs_mem hl).2 m hm))⟩
 have hval : (c.res.sb pc S2).den ρ2 = c.res.den ρ1 := by
  rw [SV.sb_den hρ2ok hp2]
  exact SV.den_eq same c.res (fun n hm => ha n (mres n hm) (nm2 n hm))
 have hadr : ∀ n o, lk c.hq n = some o → ρ2.a (nmA S2.a n) = ρ1.a n := fun n o hl => ha n (mkey n o hl).1 (nm1 n o hl).1
 have hup : ∀ n, n ∈ namesM c → n < c.cnt → nmA S2.a n < nx + d := by
  intro n hm hlt
  by_cases q : n < c.cnt0
  ·rw [hnm0 n q]; have := hbel n hm q; omega
  ·rw [hnm n (by omega) hlt]; omega
 obtain ⟨G, hG⟩ : ∃ G, G = subNs S (goneM c.hq c.hp) := ⟨_, rfl⟩
 rw [← hG]
 have hlkap : ∀ n o, lk (sbH pc S2 c.hq ++ rmAll h G) n = some o → (∃ n' p, lk c.hq n' = some p ∧ n = nmA S2.a n' ∧ o = p.sb pc S2) ∨ (lk h n = some o ∧ ∀ m q, lk c.hp m = some q → ρ.a n ≠ (ρ.sb S).a m) := by
  intro n o hl
  rw [lk_append'] at hl
  split at hl
  ·rename_i o' ho'
   cases hl
   exact .inl (sbH_some ho')
  ·rename_i hnone
   rw [lkRmAll] at hl
   split at hl
   ·cases hl
   ·rename_i hng
    refine .inr ⟨hl, fun m q hm he => ?_⟩
    obtain ⟨a, haa, _⟩ := hfit m q hm
    have heq : n = nmA S.a m := H.inj _ _ _ _ hl haa he
    cases hq : lk c.hq m with
    | some p =>
     have := sbH_none hnone m p hq
     rw [hnm0 m (nm6 m q hm)] at this
     exact this heq.symm
    | none =>
     refine hng ?_
     rw [hG, subNs_eq, heq]
     exact List.mem_map.2 ⟨m, goneM_mem hm hq, rfl⟩
 have hold : ∀ n o, lk h n = some o → ρ2.a n = ρ.a n := fun n o hl => g2.a n (.inl (hn n o hl).1)
 refine ⟨ρ2, (endS_sb hC.top hval).symm, ⟨g2, by show nx ≤ nx + d; omega, ⟨H1.g0, ?_, ?_, ?_⟩, fr.size, ?_, ?_, ?_⟩, ?_⟩
 ·intro n o hl
  rcases hlkap n o hl with ⟨n', p, q1, rfl, rfl⟩ | ⟨q1, q2⟩
  ·obtain ⟨obj, r1, r2⟩ := H1.at_ n' p q1
   refine ⟨obj, by rw [hadr n' p q1]; exact r1, ?_⟩
   exact ObjR.of_sb hρ2ok hp2 (plainH_ok hC.hp.2 n' p q1) (ObjR.same same r2 (fun m hm => ha m ((mkey n' p q1).2 m hm) ((nm1 n' p q1).2 m hm)))
  ·obtain ⟨obj, r1, r2⟩ := H.at_ n o q1
   refine ⟨obj, ?_, r2.agr g2 (fun m hm => .inl ((hn n o q1).2 m hm))⟩
   rw [hold n o q1, fr.same _ (HeapR.lt H q1) (fun m q hm he => q2 m q hm he.symm)]
   exact r1
 ·intro n o hl
  rcases hlkap n o hl with ⟨n', p, q1, rfl, rfl⟩ | ⟨q1, q2⟩
  ·rw [hadr n' p q1]; exact H1.own n' p q1
  ·rw [hold n o q1]; exact H.own n o q1
 ·-- apart
  have cross : ∀ n' p n o, lk c.hq n' = some p → lk h n = some o → (∀ m q, lk c.hp m = some q → ρ.a n ≠ (ρ.sb S).a m) → ρ1.a n' ≠ ρ.a n := by
   intro n' p n o q1 s1 s2 he
   rcases fr.dom n' p q1 with ⟨m, q, h3, h4⟩ | h3
   ·exact s2 m q h3 (by rw [← he, h4])
   ·have := HeapR.lt H s1; omega
  intro n m o p hl hm he
  rcases hlkap n o hl with ⟨n', p', q1, rfl, rfl⟩ | ⟨q1, q2⟩ <;> rcases hlkap m p hm with ⟨m', p'', s1, rfl, rfl⟩ | ⟨s1, s2⟩
  ·rw [hadr n' p' q1, hadr m' p'' s1] at he
   rw [H1.inj n' m' _ _ q1 s1 he]
  ·rw [hadr n' p' q1, hold m p s1] at he
   exact absurd he (cross n' p' m p q1 s1 s2)
  ·rw [hadr m' p'' s1, hold n o q1] at he
   exact absurd he.symm (cross m' p'' n o s1 q1 q2)
  ·rw [hold n o q1, hold m p s1] at he
   exact H.inj n m o p q1 s1 he
 ·intro k hk hne
  refine fr.same k hk (fun n o hl => ?_)
  obtain ⟨a, haa, _⟩ := hfit n o hl
  exact hne _ a haa
 ·intro n o hl
  rcases hlkap n o hl with ⟨n', p, q1, rfl, rfl⟩ | ⟨q1, q2⟩
  ·by_cases q : n' < c.cnt0
   ·obtain ⟨b, hb⟩ := nm5 n' p q1 q
    obtain ⟨a, haa, _⟩ := hfit n' b hb
    rw [hnm0 n' q]
    exact .inl ⟨a, haa⟩
   ·have hlt := (nm1 n' p q1).1
    refine .inr ⟨by rw [hnm n' (by omega) hlt]; omega, by rw [hnm n' (by omega) hlt]; show _ < nx + d; omega, ?_⟩
    rw [hadr n' p q1]
    rcases fr.dom n' p q1 with ⟨m, b, h3, h4⟩ | h3
    ·obtain ⟨a, haa, _⟩ := hfit m b h3
     exact .inr ⟨_, a, haa, h4⟩
    ·exact .inl h3
  ·exact .inl ⟨o, q1⟩
 ·intro n o hl
  rcases hlkap n o hl with ⟨n', p, q1, rfl, rfl⟩ | ⟨q1, q2⟩
  ·refine ⟨hup n' (mkey n' p q1).1 (nm1 n' p q1).1, fun m hm => ?_⟩
   rcases SObj.sb_names hS2v (plainH_ok hC.hp.2 n' p q1) m hm with ⟨k, k1, rfl⟩ | hm
   ·exact hup k ((mkey n' p q1).2 k k1) ((nm1 n' p q1).2 k k1)
   ·show m < nx + d; omega
  ·exact ⟨Nat.lt_of_lt_of_le (hn n o q1).1 (by show nx ≤ nx + d; omega), fun m hm => Nat.lt_of_lt_of_le ((hn n o q1).2 m hm) (by show nx ≤ nx + d; omega)⟩
 ·intro m hm
  rcases SV.sb_names hS2v c.res m hm with ⟨k, k1, rfl⟩ | hm
  ·exact hup k (mres k k1) (nm2 k k1)
  ·show m < nx + d; omega
theorem findX_ok (hT : PostsOk T.orac) (hρ : ρ.Ok) (hp : Holds ρ pc) (hn : HNames nx h) (hO : OracOk P b0 T.orac ρ) (H : HeapR ρ b0 h w) {f : FuncId} {args : List SV} {u : UsedX} (hu : findX T.orac pc h nx f args = .use u) :
  Holds ρ u.post ∧ Calls P f (SV.denL ρ args).toArray w fun e w' => ∃ ρ', e = endS ρ' u.val ∧ Move ρ ρ' b0 h u.heap nx u.next w w' ∧ NamesV u.next u.val := by
 refine ⟨findX_post ⟨hρ, hO.F⟩ hT hp hu, ?_⟩
 rcases findX_use hu with ⟨c, hc, v, rfl, hv, rfl⟩ | ⟨c, hc, rfl, hv⟩
 ·exact (useC_ok hT hρ hp hn hO H hc hv).2
 ·exact useM_ok hρ hp hn hO H hc hv
end
end Go.Proofs.Ythenenacmiiphaa.Sx
namespace Go.Proofs.Ythenenacmiiphaa.Sx
open Go
def RunOk (P : Program) (b0 : World) (orac : Orc) (C : Cfg) (ls : List Leaf) : Prop :=
 ∀ (ρ : Rho) (w : World) (f : Frame) (fs cs : List Frame), ρ.Ok → OracOk P b0 orac ρ → CfgR ρ b0 C w f fs →
  ∃ lf ∈ ls, Holds ρ lf.pc ∧ ∃ ρ' w' f', Steps P (lone f (fs ++ cs) w) (lone f' cs w') ∧ f'.leaving P w' (endS ρ' lf.val) ∧ f'.fn = bot C.top C.rest ∧
   Move ρ ρ' b0 C.heap lf.heap C.next lf.next w w' ∧ NamesV lf.next lf.val
def SubOk (P : Program) (b0 : World) (orac : Orc) (sub : Cfg → Out) : Prop := ∀ C ls, sub C = .leaves ls → PcOk orac.F Leaf.pc C.pc ls ∧ RunOk P b0 orac C ls
section
variable {P : Program} {T : Tab} {b0 : World} {sub : Cfg → Out} {ρ : Rho} {w : World}
theorem enter_R (hT : T.Ok P) {f : FuncId} {F : Func} {c : Code} {args : List SV} {N : Nat} (hF : T.fn.get f = some F) (hb : F.body = some c) (hn : NamesL N args) :
  FrameR ρ N (frameOf f F c args) (Frame.enter P f (SV.denL ρ args).toArray .normal) ∧ Frame.enter P f (SV.denL ρ args).toArray .normal = fr f ((SV.denL ρ args).toArray ++ Array.replicate (F.ntmps - (SV.denL ρ args).toArray.size) undef) [.code c] [] ⟨none, .normal⟩ := by
 obtain ⟨h1, _⟩ := hT.fn f F hF
 have he : Frame.enter P f (SV.denL ρ args).toArray .normal = fr f ((SV.denL ρ args).toArray ++ Array.replicate (F.ntmps - (SV.denL ρ args).toArray.size) undef) [.code c] [] ⟨none, .normal⟩ := by
  simp [Frame.enter, h1, hb]
 refine ⟨⟨?_, ?_, ?_, ?_, ?_, ?_, ?_, ?_⟩, he⟩
 ·rw [he]; simp [frameOf, SItem.den, dfs, defsOf, dcOf, rk, ssDen]
 ·rw [he]
  intro i
  simp only [frameOf]
  rw [get2_chunk _ _ (by simp; omega)]
  simp only [List.getElem?_append, Array.getElem?_append, List.size_toArray, denL_length, List.getElem?_toArray, denL_get]
  split
  ·rfl
  ·rw [List.getElem?_replicate, Array.getElem?_replicate]
   split <;> simp [SV.den, SV.denL, undef]
 ·intro i v hv
  simp only [frameOf] at hv
  rw [get2_chunk _ _ (by simp; omega)] at hv
  rcases List.mem_append.1 (List.mem_of_getElem? hv) with h | h
  ·exact hn v h
  ·rw [List.mem_replicate] at h
   rw [h.2]; intro n hn; simp [SV.names, SV.namesL] at hn
 ·intro i hi
  simp only [frameOf, List.mem_singleton] at hi
  subst hi
  exact hT.code f F c hF hb
 ·intro n hn; simp [frameOf] at hn
 ·intro n hn; simp [frameOf] at hn
 ·intro h; simp [frameOf] at h
 ·exact ⟨fun v r h => by simp [frameOf] at h, fun d hd => by simp [frameOf] at hd⟩
theorem enter_RD (hT : T.Ok P) {f : FuncId} {F : Func} {c : Code} {args : List SV} {N : Nat} (hF : T.fn.get f = some F) (hb : F.body = some c) (hn : NamesL N args) :
  FrameR ρ N { frameOf f F c args with md := ⟨.run, true, []⟩ } (Frame.enter P f (SV.denL ρ args).toArray .deferred) := by
 obtain ⟨h, he⟩ := enter_R (P := P) (ρ := ρ) hT hF hb hn
 have e2 : Frame.enter P f (SV.denL ρ args).toArray .deferred = { Frame.enter P f (SV.denL ρ args).toArray .normal with kind := .deferred } := rfl
 refine ⟨?_, h.slots, h.names, h.items, h.defs, h.rnd, fun h => (by cases h), ⟨fun v r h => (by cases h), fun d hd => (by cases hd)⟩⟩
 rw [e2, he]
 simp [frameOf, SItem.den, dfs, defsOf, dcOf, rk, ssDen]
theorem steps_callP {f : FuncId} {args : Array Value} {R : Ending → World → Prop} (hc : Calls P f args w R) (hR : ∀ e w', R e w' → ∃ ch, e = .panicked ch) (c : Frame) (cs : List Frame) :
  ∃ ch w', R (.panicked ch) w' ∧ Steps P (lone (Frame.enter P f args .normal) (c :: cs) w) (lone (c.raise ch) cs w') := by
 obtain ⟨e, w', fr', hr, hcom, hfn, hl⟩ := hc (c :: cs)
 obtain ⟨v, rfl⟩ := hR e w' hr
 exact ⟨v, w', hr, Steps.trans hcom (.one (step_leave_panicked hl))⟩
theorem grown_move {h : SHeap} (H : HeapR ρ b0 h w) {nx : Nat} (hn : HNames nx h) {w' : World} (g : Grew w w') : Move ρ ρ b0 h h nx nx w w' := by
 refine ⟨.refl _ _ _, Nat.le_refl _, ⟨?_, ?_, H.own, H.inj⟩, g.size, fun k hk _ => g.block k hk (by simp), fun n o hh => .inl ⟨o, hh⟩, hn⟩
 ·exact ⟨⟨g.os.trans H.g0.os, g.tape.trans H.g0.tape, g.output.trans H.g0.output, Nat.le_trans H.g0.size g.size, fun k hk hne => (g.block k (Nat.lt_of_lt_of_le hk H.g0.size) (by simp)).trans (H.g0.block k hk hne)⟩, fun h => Nat.le_trans (H.g0.dr h) (g.dr h)⟩
 ·intro n o hn
  obtain ⟨obj, h1, h2⟩ := H.at_ n o hn
  exact ⟨obj, (g.block _ (HeapR.lt H hn) (by simp)).trans h1, h2⟩
theorem findO_ok {f : FuncId} {args : List SV} {l : List Orac} {o : Orac} (h : findO f args l = some o) : o ∈ l ∧ o.f = f ∧ o.args = args := by
  induction l with
  | nil => simp [findO] at h
  | cons x l ih =>
    simp only [findO] at h
    split at h
    · rename_i h1
      split at h
      · rename_i h2
        cases h
        exact ⟨List.mem_cons_self .., by simpa using h1, SV.beqL_eq _ _ h2⟩
      · obtain ⟨a, b⟩ := ih h; exact ⟨List.mem_cons_of_mem _ a, b⟩
    · obtain ⟨a, b⟩ := ih h; exact ⟨List.mem_cons_of_mem _ a, b⟩
theorem steps_call {f : FuncId} {args : Array Value} {R : Ending → World → Prop} (hc : Calls P f args w R) (hR : ∀ e w', R e w' → ∃ v, e = .returned v) (c : Frame) (cs : List Frame) :
  ∃ v w', R (.returned v) w' ∧ Steps P (lone (Frame.enter P f args .normal) (c :: cs) w) (lone (c.finish v) cs w') := by
 obtain ⟨e, w', fr', hr, hcom, hfn, hl⟩ := hc (c :: cs)
 obtain ⟨v, rfl⟩ := hR e w' hr
 exact ⟨v, w', hr, Steps.trans hcom (.one (step_leave_returned hl))⟩
theorem plainOp_defer {o : Oper} (h : plainOp o = true) : ∀ c, o.op ≠ .defer c := by
 intro c hc
 simp [plainOp, hc] at h
variable {fn : FuncId} {tmps X : Array Value} {k : List Item} {ds : List Deferred} {r : RK} {cs : List Frame} {pc : List BE} {hF : SHeap} {nx : Nat} {sl : Slots} {o : Oper} {ls : List Leaf} {ops : Array Oper} {i : Nat} {rest : List Nat}
noncomputable def endFr (fn : FuncId) (tm : Array Value) (ops : Array Oper) (j : Nat) (rest : List Nat) (k : List Item) (ds : List Deferred) (r : RK) (dst : Option Tmp) (ρ : Rho) (v : SV) : Frame :=
 match panV v with
 | none => fr fn (putA tm dst (v.den ρ)) (.inRegion ops rest :: k) ds r
 | some u => { fr fn tm (.inRegion ops (j :: rest) :: k) ds r with mode := .panicking [{ v := u.den ρ, recovered := false }] }
theorem endFr_n {fn : FuncId} {tm : Array Value} {ops : Array Oper} {j : Nat} {rest : List Nat} {k : List Item} {ds : List Deferred} {r : RK} {dst : Option Tmp} {ρ : Rho} {v : SV} (h : panV v = none) : endFr fn tm ops j rest k ds r dst ρ v = fr fn (putA tm dst (v.den ρ)) (.inRegion ops rest :: k) ds r := by unfold endFr; rw [h]
theorem endFr_p {fn : FuncId} {tm : Array Value} {ops : Array Oper} {j : Nat} {rest : List Nat} {k : List Item} {ds : List Deferred} {r : RK} {dst : Option Tmp} {ρ : Rho} {v u : SV} (h : panV v = some u) : endFr fn tm ops j rest k ds r dst ρ v = { fr fn tm (.inRegion ops (j :: rest) :: k) ds r with mode := .panicking [{ v := u.den ρ, recovered := false }] } := by unfold endFr; rw [h]
theorem alone_ok (hT : T.Ok P) (hs : SubOk P b0 T.orac sub) (hρ : ρ.Ok) (hO : OracOk P b0 T.orac ρ) (hp : Holds ρ pc) (H : HeapR ρ b0 hF w) (hn : HNames nx hF) (hX : SlotsR ρ sl X) (hsn : SNames nx sl)
  (ho : ops[i]? = some o) (hpl : plainOp o = true) (hw : Region.wanted o (yielded ops tmps) = true) (hev : execOp (Act.eval ⟨tmps, ds⟩) o = execOp (Act.eval ⟨X, ds⟩) o)
  (h : aloneP T sub pc hF nx sl o = .inl (.leaves ls)) :
  ∃ lf ∈ ls, Holds ρ lf.pc ∧ ∃ ρ' w', Steps P (lone (fr fn tmps (.inRegion ops (i :: rest) :: k) ds r) cs w) (lone (endFr fn tmps ops i rest k ds r o.dst ρ' lf.val) cs w') ∧
   Move ρ ρ' b0 hF lf.heap nx lf.next w w' ∧ NamesV lf.next lf.val := by
 have hop := symOp_ok (P := P) (b0 := b0) (w := w) (a := ⟨X, ds⟩) hT hρ hp hO.F hO.rom H hn hX hsn o
 have hdf := plainOp_defer hpl
 unfold aloneP at h
 split at h
 ·rename_i v h' nx' hv
  rw [hv] at hop
  obtain ⟨ρ', w', nv, h1, h2, h3, h4⟩ := hop
  simp only [Sum.inl.injEq] at h
  obtain ⟨hcv, h⟩ := calmV_ok h
  cases h
  refine ⟨_, List.mem_singleton.2 rfl, hp, ρ', w', ?_, h3, h4⟩
  rw [endFr_n hcv]
  refine .one (st_op_value ho hw hdf ?_)
  rw [hev]
  rcases h2 with rfl | ⟨rfl, rfl⟩
  ·exact .inl h1
  ·exact .inr ⟨h1, by simp [SV.den, SV.denL, undef]⟩
 ·rename_i f args hv
  rw [hv] at hop
  obtain ⟨hop1, hop2⟩ := hop
  split at h
  ·rename_i F hF'
   split at h
   ·rename_i c hc
    obtain ⟨hfr, hent⟩ := enter_R (P := P) (ρ := ρ) hT hF' hc hop2
    obtain ⟨hf1, hf2⟩ := hT.fn f F hF'
    have henter := hop1 F hf1 (by rw [hc]; rfl) hf2
    split at h
    ·rename_i oc hoc
     obtain ⟨hm, hf, ha⟩ := findO_ok hoc
     obtain ⟨⟨n1, n2, n3⟩, hcall⟩ := hO.l oc hm
     have hc := hcall w H.g0
     rw [hf, ha] at hc
     obtain ⟨v, w', ⟨hv1, hg⟩, hst⟩ := steps_call hc (fun e w' h => ⟨_, h.1⟩) (fr fn tmps (.inRegion ops (i :: rest) :: k) ds r) cs
     have hst2 : Steps P (lone (fr fn tmps (.inRegion ops (i :: rest) :: k) ds r) cs w) (lone (fr fn (putA tmps o.dst v) (.inRegion ops rest :: k) ds r) cs w') := by
      rw [finish_fr ho] at hst
      exact .head (st_op_enter ho hw hdf (by rw [hev]; exact henter)) hst
     have hmv := grown_move H hn hg
     cases hv1
     split at h
     ·rename_i hd
      have hd' := dec_den hρ hp _ _ hd
      simp only [hd', if_true] at hst2
      simp only [Sum.inl.injEq] at h
      obtain ⟨hcv, h⟩ := calmV_ok h
      cases h
      exact ⟨_, List.mem_singleton.2 rfl, hp, ρ, w', by rw [endFr_n hcv]; exact hst2, hmv, fun n hn => by rw [n2] at hn; cases hn⟩
     ·rename_i hd
      have hd' := dec_den hρ hp _ _ hd
      simp only [hd', Bool.false_eq_true, if_false] at hst2
      simp only [Sum.inl.injEq] at h
      obtain ⟨hcv, h⟩ := calmV_ok h
      cases h
      exact ⟨_, List.mem_singleton.2 rfl, hp, ρ, w', by rw [endFr_n hcv]; exact hst2, hmv, fun n hn => by rw [n3] at hn; cases hn⟩
     ·cases h
    ·split at h
     ·rename_i u hu
      cases h
      obtain ⟨hpost, hcall⟩ := findX_ok (b0 := b0) (w := w) hT.posts hρ hp hn hO H hu
      cases hpn : panV u.val with
      | none =>
       obtain ⟨v, w', ⟨ρ', hv1, hmv, hnv⟩, hst⟩ := steps_call hcall (fun e w' ⟨ρ', h, _⟩ => ⟨_, h.trans (endS_ret hpn)⟩) (fr fn tmps (.inRegion ops (i :: rest) :: k) ds r) cs
       rw [endS_ret hpn] at hv1
       cases hv1
       rw [finish_fr ho] at hst
       exact ⟨_, List.mem_singleton.2 rfl, fun p hm => (List.mem_append.1 hm).elim (hpost p) (hp p), ρ', w', by rw [endFr_n hpn]; exact .head (st_op_enter ho hw hdf (by rw [hev]; exact henter)) hst, hmv, hnv⟩
      | some v =>
       obtain ⟨ch, w', ⟨ρ', hv1, hmv, hnv⟩, hst⟩ := steps_callP hcall (fun e w' ⟨ρ', h, _⟩ => ⟨_, h.trans (endS_pan hpn)⟩) (fr fn tmps (.inRegion ops (i :: rest) :: k) ds r) cs
       rw [endS_pan hpn] at hv1
       cases hv1
       exact ⟨_, List.mem_singleton.2 rfl, fun p hm => (List.mem_append.1 hm).elim (hpost p) (hp p), ρ', w', by rw [endFr_p hpn]; exact .head (st_op_enter ho hw hdf (by rw [hev]; exact henter)) hst, hmv, hnv⟩
     ·cases h
     simp only [Sum.inl.injEq] at h
     obtain ⟨hpc, hrun⟩ := hs _ _ h
     obtain ⟨lf, hlf, hh, ρ', w', f', hst, hlv, _, hmv, hnv⟩ := hrun ρ w _ [] (fr fn tmps (.inRegion ops (i :: rest) :: k) ds r :: cs) hρ hO ⟨hfr, .nil, H, hn, hp⟩
     refine ⟨lf, hlf, hh, ρ', w', ?_, hmv, hnv⟩
     cases hpn : panV lf.val with
     | none =>
      rw [endS_ret hpn] at hlv
      rw [endFr_n hpn]
      refine .head (st_op_enter ho hw hdf (by rw [hev]; exact henter)) (Steps.trans hst (.one ?_))
      have := step_leave_returned (P := P) (c := fr fn tmps (.inRegion ops (i :: rest) :: k) ds r) (cs := cs) hlv
      rw [finish_fr ho] at this
      exact this
     | some v =>
      rw [endS_pan hpn] at hlv
      rw [endFr_p hpn]
      refine .head (st_op_enter ho hw hdf (by rw [hev]; exact henter)) (Steps.trans hst (.one ?_))
      exact step_leave_panicked (P := P) (c := fr fn tmps (.inRegion ops (i :: rest) :: k) ds r) (cs := cs) hlv
   ·cases h
  ·cases h
 ·cases h
 ·cases h
 ·cases h
end
end Go.Proofs.Ythenenacmiiphaa.Sx
namespace Go.Proofs.Ythenenacmiiphaa.Sx
open Go

theorem OracOk.same {P : Program} {b0 : World} {l : Orc} {ρ ρ' : Rho} (g : Same ρ ρ') (h : OracOk P b0 l ρ) : OracOk P b0 l ρ' := by
 refine ⟨?_, h.rom.eqz g.z, by rw [g.z]; exact h.F, h.ctr, h.mem⟩
 intro o ho
 obtain ⟨⟨n1, n2, n3⟩, hc⟩ := h.l o ho
 refine ⟨⟨n1, n2, n3⟩, fun W hW => ?_⟩
 have e1 := SV.denL_same g o.args (by rw [n1]; simp)
 have e2 : (if o.c.den ρ' then o.yes else o.no).den ρ' = (if o.c.den ρ then o.yes else o.no).den ρ := by
  rw [BE.den_same g]
  apply SV.den_eq g
  split <;> simp [n2, n3]
 rw [e1, e2]
 exact hc W hW
def apS (e : Eff) (t : Nat) (v : Option SV) : Option SV := if e.dst = some t then v.map fun _ => e.val else v
def WS (e : Eff) (t : Nat) : Prop := e.dst = some t
def WH (e : Eff) (n : Nat) : Prop := (lk e.made n).isSome = true ∨ (lk e.writes n).isSome = true ∨ memN n e.gone = true
theorem apS_id {e : Eff} {t : Nat} (h : ¬ WS e t) (v : Option SV) : apS e t v = v := by simp [apS, show ¬ e.dst = some t from h]
theorem apH_id {e : Eff} {n : Nat} (h : ¬ WH e n) (v : Option SObj) : apH e n v = v := by
 unfold WH at h
 unfold apH
 cases h1 : lk e.made n <;> cases h2 : lk e.writes n <;> simp_all
section
variable {V : Type} {ap : Eff → Nat → Option V → Option V} {W : Eff → Nat → Prop}
theorem stX_agree (hid : ∀ e x v, ¬ W e x → ap e x v = v) : ∀ (es : List Eff) (D D' : Nat → Bool) (m m' x : Nat) (v : Option V),
    (∀ i e, es[i]? = some e → W e x → (decide (i < m) && D i) = (decide (i < m') && D' i)) → stX ap es D m x v = stX ap es D' m' x v := by
  intro es
  induction es with
  | nil => intro D D' m m' x v h; simp [stX]
  | cons e es ih =>
    intro D D' m m' x v h
    have h0 := h 0 e rfl
    have hs : ∀ (m m' : Nat) (v : Option V), (∀ i e', es[i]? = some e' → W e' x → (decide (i < m) && D (i + 1)) = (decide (i < m') && D' (i + 1))) →
        stX ap es (fun i => D (i + 1)) m x v = stX ap es (fun i => D' (i + 1)) m' x v := fun m m' v hh => ih _ _ m m' x v hh
    have hz : ∀ (D : Nat → Bool) (v : Option V), stX ap es D 0 x v = v := by intro D v; cases es <;> rfl
    cases m with
    | zero =>
      cases m' with
      | zero => rfl
      | succ m' =>
        simp only [stX]
        have e1 : (if D' 0 = true then ap e x v else v) = v := by
          by_cases hw : W e x
          · have := h0 hw; simp at this; simp [this]
          · rw [hid e x v hw]; simp
        rw [e1]
        exact (hz (fun i => D (i + 1)) v).symm.trans (hs 0 m' v (fun i e' he hw => by simpa using h (i + 1) e' he hw))
    | succ m =>
      cases m' with
      | zero =>
        simp only [stX]
        have e1 : (if D 0 = true then ap e x v else v) = v := by
          by_cases hw : W e x
          · have := h0 hw; simp at this; simp [this]
          · rw [hid e x v hw]; simp
        rw [e1]
        exact (hs m 0 v (fun i e' he hw => by simpa using h (i + 1) e' he hw)).trans (hz (fun i => D' (i + 1)) v)
      | succ m' =>
        simp only [stX]
        have e1 : (if D 0 = true then ap e x v else v) = (if D' 0 = true then ap e x v else v) := by
          by_cases hw : W e x
          · have := h0 hw; simp at this; simp [this]
          · rw [hid e x v hw]; simp
        rw [e1]
        exact hs m m' _ (fun i e' he hw => by simpa using h (i + 1) e' he hw)
theorem stX_add (hid : ∀ e x v, ¬ W e x → ap e x v = v) : ∀ (es : List Eff) (D D' : Nat → Bool) (m j x : Nat) (v : Option V) (e : Eff), es[j]? = some e → j < m → D j = false → (∀ i, D' i = (D i || decide (i = j))) →
    (∀ i e', j < i → es[i]? = some e' → D i = true → W e x → ¬ W e' x) → stX ap es D' m x v = ap e x (stX ap es D m x v) := by
  intro es
  induction es with
  | nil => intro D D' m j x v e he; simp at he
  | cons a es ih =>
    intro D D' m j x v e he hj hD hD' hc
    cases m with
    | zero => omega
    | succ m =>
      simp only [stX]
      cases j with
      | zero =>
        simp at he
        subst he
        have d0 : D' 0 = true := by rw [hD']; simp
        rw [d0, hD]
        simp only [if_true, Bool.false_eq_true, if_false]
        have hrest : ∀ i, D' (i + 1) = D (i + 1) := by intro i; rw [hD']; simp
        by_cases hw : W a x
        · have hn : ∀ u, stX ap es (fun i => D' (i + 1)) m x u = u := by
            intro u
            have hz : stX ap es (fun i => D' (i + 1)) 0 x u = u := by cases es <;> rfl
            rw [← hz]
            conv => lhs; rw [hz]
            refine stX_agree hid es _ _ m 0 x u ?_
            intro i e' he' hw'
            cases hd : D (i + 1) with
            | false => simp [hrest, hd]
            | true => exact absurd hw' (hc (i + 1) e' (by omega) he' hd hw)
          rw [hn]
          have hn2 : stX ap es (fun i => D (i + 1)) m x v = v := by
            have := hn v
            rwa [show (fun i => D' (i + 1)) = (fun i => D (i + 1)) from funext hrest] at this
          rw [hn2]
        · rw [hid a x _ hw, hid a x _ hw, show (fun i => D' (i + 1)) = (fun i => D (i + 1)) from funext hrest]
      | succ j =>
        have e0 : D' 0 = D 0 := by rw [hD']; simp
        rw [e0]
        exact ih _ _ m j x _ e (by simpa using he) (by omega) hD (fun i => by rw [hD']; simp) (fun i e' hi he' hd => hc (i + 1) e' (by omega) (by simpa using he') hd)
theorem stX_from (hap : ∀ e x v u, ap e x v = some u → v = some u ∨ (W e x ∧ ap e x none = some u) ∨ (W e x ∧ ∃ y, v = some y ∧ ap e x (some y) = some u)) : ∀ (es : List Eff) (D : Nat → Bool) (m x : Nat) (v : Option V) (u : V), stX ap es D m x v = some u →
    v = some u ∨ ∃ i e y, es[i]? = some e ∧ D i = true ∧ W e x ∧ ap e x y = some u := by
  intro es
  induction es with
  | nil => intro D m x v u h; exact .inl h
  | cons a es ih =>
    intro D m x v u h
    cases m with
    | zero => exact .inl h
    | succ m =>
      simp only [stX] at h
      rcases ih _ _ _ _ _ h with h1 | ⟨i, e, y, h1, h2, h3, h4⟩
      · cases hd : D 0 with
        | false => simp [hd] at h1; exact .inl h1
        | true =>
          simp [hd] at h1
          rcases hap _ _ _ _ h1 with h2 | ⟨h2, h3⟩ | ⟨h2, y, h3, h4⟩
          · exact .inl h2
          · exact .inr ⟨0, a, none, rfl, hd, h2, h3⟩
          · exact .inr ⟨0, a, some y, rfl, hd, h2, h4⟩
      · exact .inr ⟨i + 1, e, y, by simpa using h1, h2, h3, h4⟩
end
end Go.Proofs.Ythenenacmiiphaa.Sx
namespace Go.Proofs.Ythenenacmiiphaa.Sx
open Go
section
variable {P : Program} {T : Tab} {b0 : World} {sub : Cfg → Out} {ρ : Rho}
theorem HeapF.part {L L' : Nat → Option SObj} {w : World} (H : HeapF ρ b0 L w) (h : ∀ n o, L' n = some o → L n = some o) : HeapF ρ b0 L' w :=
 ⟨H.g0, fun n o hn => H.at_ n o (h n o hn), fun n o hn => H.own n o (h n o hn), fun n m o p hn hm => H.inj n m o p (h n o hn) (h m p hm)⟩
theorem HeapF.lt {L : Nat → Option SObj} {w : World} (H : HeapF ρ b0 L w) {n : Nat} {o : SObj} (hn : L n = some o) : ρ.a n < w.heap.size := by
 obtain ⟨obj, ho, _⟩ := H.at_ n o hn
 exact (Array.getElem?_eq_some_iff.1 ho).1
theorem lk_keepH (F : List Nat) (h : SHeap) (n : Nat) : lk (keepH F h) n = if memN n F then lk h n else none := by
  induction h with
  | nil => simp [keepH, lk_nil]
  | cons p h ih =>
    obtain ⟨m, o⟩ := p
    simp only [keepH]
    by_cases hm : memN m F = true
    · rw [if_pos hm, lk_cons, lk_cons, ih]
      by_cases e : m = n
      · subst e; simp [hm]
      · simp [e]
    · rw [if_neg hm, ih, lk_cons]
      by_cases e : m = n
      · subst e; simp [hm]
      · simp [e]
theorem lk_append {α : Type} (l m : List (Nat × α)) (n : Nat) : lk (l ++ m) n = match lk l n with | some o => some o | none => lk m n := by
  induction l with
  | nil => simp [lk_nil]
  | cons p l ih =>
    obtain ⟨k, o⟩ := p
    rw [List.cons_append, lk_cons, lk_cons, ih]
    by_cases e : k = n <;> simp [e]
theorem lk_mem {α : Type} {l : List (Nat × α)} {n : Nat} {o : α} (h : lk l n = some o) : (n, o) ∈ l := by
  induction l with
  | nil => simp [lk_nil] at h
  | cons p l ih =>
    obtain ⟨k, x⟩ := p
    rw [lk_cons] at h
    split at h
    · rename_i e; subst e; cases h; exact List.mem_cons_self ..
    · exact List.mem_cons_of_mem _ (ih h)
theorem madeOf_ok (nx : Nat) (h : SHeap) (n : Nat) : lk (madeOf nx h) n = if nx ≤ n then lk h n else none := by
  induction h with
  | nil => simp [madeOf, lk_nil]
  | cons p h ih =>
    obtain ⟨m, o⟩ := p
    simp only [madeOf]
    by_cases hm : nx ≤ m
    · rw [if_pos (Nat.ble_eq_true_of_le hm), lk_cons, lk_cons, ih]
      by_cases e : m = n
      · subst e; simp [hm]
      · simp [e]
    · rw [if_neg (by intro hb; exact hm (Nat.le_of_ble_eq_true hb)), ih, lk_cons]
      by_cases e : m = n
      · subst e; simp [hm]
      · simp [e]
theorem SObj.beq_eq (a b : SObj) (h : a.beq b = true) : a = b := by
 cases a <;> cases b <;> simp [SObj.beq] at h
 ·rw [h.1, SV.beqL_eq _ _ h.2]
 ·rw [h.1, h.2.1, h.2.2.1, SV.beqL_eq _ _ h.2.2.2]
 ·rw [h.1, h.2.1, h.2.2.1, ksEq_eq _ _ h.2.2.2.1, IE.beq_eq _ _ h.2.2.2.2.1, LE.beq_eq _ _ h.2.2.2.2.2]
 ·rw [h.1, h.2.1, (keq_iff _ _).1 h.2.2.1, SV.beqL_eq _ _ h.2.2.2.1, SV.beqL_eq _ _ h.2.2.2.2.1, LE.beq_eq _ _ h.2.2.2.2.2]
 ·rw [SV.beqL_eq _ _ h.1, SV.beqL_eq _ _ h.2.1, eqNs_eq _ _ h.2.2.1, h.2.2.2]
theorem goneOf_ok (h h' : SHeap) : ∀ (F : List Nat) (n : Nat), memN n (goneOf h h' F) = true ↔ memN n F = true ∧ (lk h n).isSome = true ∧ lk h' n = none
 | [], n => by simp [goneOf, memN]
 | m :: F, n => by
  have ih := goneOf_ok h h' F n
  simp only [goneOf]
  split
  ·rename_i o h1 h2
   simp only [memN]
   split
   ·rename_i e
    have : m = n := by simpa using e
    subst this
    simp [h1, h2]
   ·exact ih
  ·rename_i hh
   rw [ih]
   simp only [memN]
   split
   ·rename_i e
    have : m = n := by simpa using e
    subst this
    constructor
    ·rintro ⟨a, b, c⟩
     obtain ⟨o, ho⟩ := Option.isSome_iff_exists.1 b
     exact absurd c (by intro hc; exact hh o ho hc)
    ·rintro ⟨_, b, c⟩
     obtain ⟨o, ho⟩ := Option.isSome_iff_exists.1 b
     exact absurd c (by intro hc; exact hh o ho hc)
   ·rfl
theorem lk_rmAll : ∀ (g : List Nat) (h : SHeap) (n : Nat), lk (rmAll h g) n = if memN n g then none else lk h n
 | [], h, n => by simp [rmAll, memN]
 | m :: g, h, n => by
  simp only [rmAll]
  rw [lk_rmAll g, lk_rmH]
  simp only [memN]
  by_cases hm : m = n
  ·subst hm; simp
  ·have : ¬ n = m := fun e => hm e.symm
   simp [hm, this]
theorem writesOf_ok (h h' : SHeap) : ∀ (F : List Nat) (ws : SHeap), writesOf h h' F = some ws →
    (∀ n o, (n, o) ∈ ws → lk h' n = some o ∧ memN n F = true ∧ (lk h n).isSome = true) ∧ (∀ n o, memN n F = true → lk h n = some o → lk ws n = none → memN n (goneOf h h' F) = false → lk h' n = some o) := by
  have gno : ∀ (F : List Nat) (n : Nat), memN n (goneOf h h' F) = false → ∀ o, memN n F = true → lk h n = some o → ∃ o', lk h' n = some o' := by
    intro F n hg o hF ho
    cases hx : lk h' n with
    | some o' => exact ⟨o', rfl⟩
    | none =>
      have := (goneOf_ok h h' F n).2 ⟨hF, by simp [ho], hx⟩
      rw [hg] at this; cases this
  have gback : ∀ (F : List Nat) (m n : Nat), memN n (goneOf h h' (m :: F)) = false → memN n F = true → memN n (goneOf h h' F) = false := by
    intro F m n hg hF
    cases hx : memN n (goneOf h h' F) with
    | false => rfl
    | true =>
      obtain ⟨a, b, c⟩ := (goneOf_ok h h' F n).1 hx
      have := (goneOf_ok h h' (m :: F) n).2 ⟨by simp [memN, a], b, c⟩
      rw [hg] at this; cases this
  intro F
  induction F with
  | nil => intro ws hw; simp [writesOf] at hw; subst hw; exact ⟨by simp, by simp [memN]⟩
  | cons m F ih =>
    intro ws hw
    simp only [writesOf] at hw
    split at hw
    · rename_i o o' ws' h1 h2 h3
      obtain ⟨a1, a2⟩ := ih _ h3
      split at hw
      · rename_i hb
        cases hw
        have := SObj.beq_eq _ _ hb
        subst this
        refine ⟨fun n p hn => ?_, ?_⟩
        · obtain ⟨b1, b2, b3⟩ := a1 n p hn
          exact ⟨b1, by simp [memN, b2], b3⟩
        · intro n p hn hl hws hg
          simp only [memN] at hn
          split at hn
          · rename_i e
            have : m = n := by simpa using e
            subst this
            rw [h1] at hl
            cases hl
            exact h2
          · exact a2 n p hn hl hws (gback F m n hg hn)
      · cases hw
        refine ⟨fun n p hn => ?_, ?_⟩
        · rcases List.mem_cons.1 hn with e | hn
          · cases e
            exact ⟨h2, by simp [memN], by simp [h1]⟩
          · obtain ⟨b1, b2, b3⟩ := a1 n p hn
            exact ⟨b1, by simp [memN, b2], b3⟩
        · intro n p hn hl hws hg
          rw [lk_cons] at hws
          simp only [memN] at hn
          split at hws
          · cases hws
          · rename_i e
            split at hn
            · rename_i e2; exact absurd (by simpa using e2) e
            · exact a2 n p hn hl hws (gback F m n hg hn)
    · rename_i ws' h1
      obtain ⟨a1, a2⟩ := ih _ hw
      refine ⟨fun n p hn => ?_, ?_⟩
      · obtain ⟨b1, b2, b3⟩ := a1 n p hn
        exact ⟨b1, by simp [memN, b2], b3⟩
      · intro n p hn hl hws hg
        simp only [memN] at hn
        split at hn
        · rename_i e
          have : m = n := by simpa using e
          subst this
          rw [h1] at hl
          cases hl
        · exact a2 n p hn hl hws (gback F m n hg hn)
    · rename_i o ws' h1 h2
      obtain ⟨a1, a2⟩ := ih _ hw
      refine ⟨fun n p hn => ?_, ?_⟩
      · obtain ⟨b1, b2, b3⟩ := a1 n p hn
        exact ⟨b1, by simp [memN, b2], b3⟩
      · intro n p hn hl hws hg
        simp only [memN] at hn
        split at hn
        · rename_i e
          have : m = n := by simpa using e
          subst this
          obtain ⟨o', ho'⟩ := gno _ _ hg p (by simp [memN]) hl
          rw [h2] at ho'; cases ho'
        · exact a2 n p hn hl hws (gback F m n hg hn)
    · cases hw
theorem lk_upAll (ws : SHeap) : ∀ (h : SHeap) (n : Nat), (∀ m o o', (m, o) ∈ ws → (m, o') ∈ ws → o = o') → (∀ m o, (m, o) ∈ ws → (lk h m).isSome = true) →
    lk (upAll h ws) n = match lk ws n with | some o => some o | none => lk h n := by
  induction ws with
  | nil => intro h n _ _; simp [upAll, lk_nil]
  | cons p ws ih =>
    obtain ⟨m, o⟩ := p
    intro h n h1 h2
    simp only [upAll]
    rw [ih (up h m o) n (fun a b c hb hc => h1 a b c (List.mem_cons_of_mem _ hb) (List.mem_cons_of_mem _ hc)) (fun a b hb => by
      rw [lk_up]
      have := h2 a b (List.mem_cons_of_mem _ hb)
      split
      · rename_i e; subst e; simpa using this
      · exact this)]
    rw [lk_cons, lk_up]
    by_cases e : m = n
    · subst e
      simp only [if_true]
      cases hl : lk ws m with
      | none =>
        have := h2 m o (List.mem_cons_self ..)
        cases hx : lk h m with
        | none => simp [hx] at this
        | some y => simp
      | some o' => simp [h1 m o o' (List.mem_cons_self ..) (List.mem_cons_of_mem _ (lk_mem hl))]
    · simp [e]
theorem merge {ρ ρ' : Rho} {lo hi : Nat} {L : Nat → Option SObj} {w w' : World} {e : Eff} (H : HeapF ρ b0 L w) (g : Agr ρ ρ' lo hi)
  (H2 : HeapF ρ' b0 (fun x => apH e x (if memN x e.touch then L x else none)) w')
  (hL : ∀ x o, L x = some o → (x < lo ∨ hi ≤ x) ∧ (memN x e.touch = true ∨ ∀ y ∈ o.names, y < lo ∨ hi ≤ y))
  (hmade : ∀ x, (lk e.made x).isSome = true → lo ≤ x ∧ x < hi ∧ (w.heap.size ≤ ρ'.a x ∨ ∃ m p, memN m e.touch = true ∧ L m = some p ∧ ρ'.a x = ρ.a m)) (hgn : ∀ x, memN x e.gone = true → memN x e.touch = true) (hwr : ∀ x, (lk e.writes x).isSome = true → memN x e.touch = true ∧ (L x).isSome = true)
  (hsz : w.heap.size ≤ w'.heap.size) (hsame : ∀ k, k < w.heap.size → (∀ n o, memN n e.touch = true → L n = some o → ρ.a n ≠ k) → w'.heap[k]? = w.heap[k]?) :
  HeapF ρ' b0 (fun x => apH e x (L x)) w' := by
 have key : ∀ x o, apH e x (L x) = some o → (apH e x (if memN x e.touch then L x else none) = some o) ∨ (memN x e.touch = false ∧ L x = some o ∧ lk e.made x = none ∧ lk e.writes x = none) := by
  intro x o hx
  unfold apH at hx ⊢
  cases h1 : lk e.made x with
  | some p => simp [h1] at hx ⊢; exact hx
  | none =>
   cases h2 : lk e.writes x with
   | some p => simp [h1, h2] at hx ⊢; exact hx
   | none =>
    simp only [h1, h2] at hx ⊢
    split at hx
    ·cases hx
    ·rename_i hg
     simp only [hg]
     cases h3 : memN x e.touch with
     | true => exact .inl (by simpa using hx)
     | false => exact .inr (by simpa using hx)
 have old : ∀ x o, memN x e.touch = false → L x = some o → w'.heap[ρ'.a x]? = w.heap[ρ.a x]? ∧ ρ'.a x = ρ.a x := by
  intro x o hx hl
  have ha := g.a x (hL x o hl).1
  refine ⟨?_, ha⟩
  rw [ha]
  refine hsame _ (H.lt hl) ?_
  intro n p hn hp heq
  have := H.inj n x p o hp hl heq
  subst this
  rw [hx] at hn; cases hn
 -- where a thing of the part stands
 have addr : ∀ x o, apH e x (if memN x e.touch then L x else none) = some o → (∃ p, memN x e.touch = true ∧ L x = some p ∧ ρ'.a x = ρ.a x) ∨ (w.heap.size ≤ ρ'.a x ∨ ∃ m p, memN m e.touch = true ∧ L m = some p ∧ ρ'.a x = ρ.a m) := by
  intro x o hx
  unfold apH at hx
  cases h1 : lk e.made x with
  | some p => exact .inr (hmade x (by simp [h1])).2.2
  | none =>
   simp only [h1] at hx
   cases h2 : lk e.writes x with
   | some p =>
    obtain ⟨ht, hs⟩ := hwr x (by simp [h2])
    obtain ⟨q, hl⟩ := Option.isSome_iff_exists.1 hs
    exact .inl ⟨q, ht, hl, g.a x (hL x q hl).1⟩
   | none =>
    simp only [h2] at hx
    split at hx
    ·cases hx
    cases ht : memN x e.touch with
    | true =>
     simp [ht] at hx
     exact .inl ⟨o, rfl, hx, g.a x (hL x o hx).1⟩
    | false => simp [ht] at hx
 refine ⟨H2.g0, ?_, ?_, ?_⟩
 ·intro x o hx
  rcases key x o hx with h | ⟨h1, h2, h3, h4⟩
  ·exact H2.at_ x o h
  ·obtain ⟨obj, h5, h6⟩ := H.at_ x o h2
   obtain ⟨h7, h8⟩ := old x o h1 h2
   refine ⟨obj, h7.trans h5, h6.agr g ?_⟩
   rcases (hL x o h2).2 with h | h
   ·rw [h1] at h; cases h
   ·exact h
 ·intro x o hx
  rcases key x o hx with h | ⟨h1, h2, h3, h4⟩
  ·exact H2.own x o h
  ·rw [(old x o h1 h2).2]; exact H.own x o h2
 ·intro x y o p hx hy heq
  rcases key x o hx with h | ⟨h1, h2, h3, h4⟩ <;> rcases key y p hy with k | ⟨k1, k2, k3, k4⟩
  ·exact H2.inj x y o p h k heq
  ·rw [(old y p k1 k2).2] at heq
   rcases addr x o h with ⟨q, a1, a2, a3⟩ | a
   ·rw [a3] at heq; exact H.inj x y q p a2 k2 heq
   ·rcases a with a | ⟨m, q, m1, m2, m3⟩
    ·have := H.lt k2; omega
    ·rw [m3] at heq
     have := H.inj m y q p m2 k2 heq
     subst this
     rw [k1] at m1; cases m1
  ·rw [(old x o h1 h2).2] at heq
   rcases addr y p k with ⟨q, a1, a2, a3⟩ | a
   ·rw [a3] at heq; exact H.inj x y o q h2 a2 heq
   ·rcases a with a | ⟨m, q, m1, m2, m3⟩
    ·have := H.lt h2; omega
    ·rw [m3] at heq
     have := H.inj x m o q h2 m2 heq
     subst this
     rw [h1] at m1; cases m1
  ·rw [(old x o h1 h2).2, (old y p k1 k2).2] at heq
   exact H.inj x y o p h2 k2 heq
def Local (P : Program) (b0 : World) (orac : Orc) (ρ : Rho) (ops : Array Oper) (slj : Nat → Option SV) (Lj : Nat → Option SObj) (j : Nat) (o : Oper) (e : Eff) : Prop :=
 ∀ (ρ1 : Rho) (w1 : World) (tm : Array Value) (fn : FuncId) (k : List Item) (ds : List Deferred) (r : RK) (cs : List Frame) (rest : List Nat), Same ρ ρ1 →
  (∀ t ∈ o.looksAt ops, (slj t).map (SV.den ρ1) = tm[t]?) →
  HeapF ρ1 b0 (fun x => if memN x e.touch then Lj x else none) w1 →
  ∃ ρ' w', Agr ρ1 ρ' e.lo e.hi ∧ Steps P (lone (fr fn tm (.inRegion ops (j :: rest) :: k) ds r) cs w1) (lone (endFr fn tm ops j rest k ds r o.dst ρ' e.val) cs w') ∧
   HeapF ρ' b0 (fun x => apH e x (if memN x e.touch then Lj x else none)) w' ∧ w1.heap.size ≤ w'.heap.size ∧
   (∀ kk, kk < w1.heap.size → (∀ n o', memN n e.touch = true → Lj n = some o' → ρ1.a n ≠ kk) → w'.heap[kk]? = w1.heap[kk]?) ∧
   (∀ x, (lk e.made x).isSome = true → e.lo ≤ x ∧ x < e.hi ∧ (w1.heap.size ≤ ρ'.a x ∨ ∃ m p, memN m e.touch = true ∧ Lj m = some p ∧ ρ'.a x = ρ1.a m)) ∧ (∀ x, memN x e.gone = true → memN x e.touch = true ∧ (Lj x).isSome = true) ∧ (∀ x, (lk e.writes x).isSome = true → memN x e.touch = true ∧ (Lj x).isSome = true) ∧
   e.lo ≤ e.hi ∧ NamesV e.hi e.val ∧ (∀ x o', (lk e.made x = some o' ∨ lk e.writes x = some o') → ∀ y ∈ o'.names, y < e.hi)
def Dom (N : Nat) (sl : Slots) : Prop := ∀ i, (get2 sl i).isSome = decide (i < N)
theorem Dom.arr {N : Nat} {sl : Slots} (h : Dom N sl) (ρ : Rho) : ∃ X, SlotsR ρ sl X := by
 refine ⟨(Array.range N).map fun i => ((get2 sl i).getD (.tup [])).den ρ, fun i => ?_⟩
 rw [Array.getElem?_map, Array.getElem?_range]
 have := h i
 by_cases hi : i < N
 ·simp only [hi, if_true, Option.map_some]
  simp only [hi, decide_true] at this
  obtain ⟨v, hv⟩ := Option.isSome_iff_exists.1 this
  simp [hv]
 ·simp only [hi, decide_false] at this
  cases hg : get2 sl i <;> simp_all
theorem Dom.put {N : Nat} {sl : Slots} (h : Dom N sl) (d : Option Tmp) (v : SV) : Dom N (putD sl d v) := by
 cases d with
 | none => exact h
 | some d =>
  intro i
  simp only [putD, get2_put2]
  rw [← h i]
  split <;> simp
theorem get2_putD (sl : Slots) (o : Oper) (v : SV) (e : Eff) (hd : e.dst = o.dst) (hv : e.val = v) (t : Nat) : get2 (putD sl o.dst v) t = apS e t (get2 sl t) := by
 unfold apS
 rw [hd, hv]
 cases o.dst with
 | none => simp [putD]
 | some d =>
  simp only [putD, get2_put2, Option.some.injEq]
theorem eval_of_slots {sl : Slots} {X tm : Array Value} {ds : List Deferred} (hX : SlotsR ρ sl X) {x : Operand} (h : ∀ t, x = .tmp t → (get2 sl t).map (SV.den ρ) = tm[t]?) : Act.eval ⟨tm, ds⟩ x = Act.eval ⟨X, ds⟩ x := by
 cases x with
 | tmp t =>
  simp only [Act.eval]
  rw [Array.getD_eq_getD_getElem?, Array.getD_eq_getD_getElem?, ← hX t, h t rfl]
 | _ => rfl
theorem wanted_run {ops : Array Oper} {pc : List BE} {sl : Slots} {o : Oper} {tm : Array Value} (hρ : ρ.Ok) (hp : Holds ρ pc) (hl : ∀ t ∈ o.looksAt ops, (get2 sl t).map (SV.den ρ) = tm[t]?) :
  (wantedS pc ops.toList sl o = .run → Region.wanted o (yielded ops tm) = true) ∧ (wantedS pc ops.toList sl o = .skip → Region.wanted o (yielded ops tm) = false) := by
 unfold wantedS Region.wanted
 cases hg : o.guard with
 | none => simp
 | some p =>
  obtain ⟨j, want⟩ := p
  simp only [nth_eq, Array.getElem?_toList]
  cases hj : ops[j]? with
  | none => simp [yielded, hj]
  | some oj =>
   simp only []
   cases hd : oj.dst with
   | none => simp [yielded, hj, hd]
   | some d =>
    simp only []
    have hm : d ∈ o.looksAt ops := by simp [Oper.looksAt, hg, hj, hd]
    have ht := hl d hm
    have hy : yielded ops tm j = match (get2 sl d).map (SV.den ρ) with | some (.bool b) => some b | _ => none := by
     rw [ht]
     simp only [yielded, hj, hd, Option.bind_some]
     cases tm[d]? with
     | none => rfl
     | some u => cases u <;> rfl
    rw [hy]
    cases hs : get2 sl d with
    | none => simp
    | some v =>
     cases v <;> simp [SV.den]
     rename_i b
     cases hb : dec pc b with
     | none => simp
     | some q =>
      have := dec_den hρ hp _ _ hb
      simp only [this]
      by_cases hq : q = want <;> simp [hq]
theorem loc_run (hT : T.Ok P) (hs : SubOk P b0 T.orac sub) (hρ : ρ.Ok) (hO : OracOk P b0 T.orac ρ) {ops : Array Oper} {pc : List BE} {h : SHeap} {nx N : Nat} {sl : Slots} {o : Oper} {ls : List Leaf} {lf : Leaf} {F : List Nat} {e : Eff} {j : Nat}
  (hp : Holds ρ pc) (hn : HNames nx h) (hsn : SNames nx sl) (hdom : Dom N sl) (ho : ops[j]? = some o) (hpl : plainOp o = true) (hw : wantedS pc ops.toList sl o = .run)
  (ha : aloneP T sub pc (keepH F h) nx sl o = .inl (.leaves ls)) (hlf : lf ∈ ls) (hh : Holds ρ lf.pc) (he : effOf o F h nx lf = some e) :
  Local P b0 T.orac ρ ops (get2 sl) (lk h) j o e ∧ e.dst = o.dst ∧ e.val = lf.val ∧ e.lo = nx ∧ e.hi = lf.next ∧ e.touch = F ∧ (∀ x, lk (e.made ++ rmAll (upAll h e.writes) e.gone) x = apH e x (lk h x)) := by
 unfold effOf at he
 split at he
 ·cases he
 ·rename_i ws hws
  cases he
  obtain ⟨W1, W2⟩ := writesOf_ok h lf.heap F ws hws
  have hpc := aloneP_pc (fun C ls h => (hs C ls h).1) hT.posts ha
  refine ⟨?_, rfl, rfl, rfl, rfl, rfl, ?_⟩
  ·intro ρ1 w1 tm fn k ds r cs rest hsame hl H
   obtain ⟨X, hX⟩ := hdom.arr ρ1
   have hρ1 := hsame.ok hρ
   have hp1 := (hsame.holds (pc := pc)).2 hp
   have Hk : HeapR ρ1 b0 (keepH F h) w1 := by
    refine H.part fun n o' hn => ?_
    rw [lk_keepH] at hn
    exact hn
   have hnk : HNames nx (keepH F h) := by
    intro n o' hn'
    rw [lk_keepH] at hn'
    split at hn'
    ·exact hn n o' hn'
    ·cases hn'
   have hev : execOp (Act.eval ⟨tm, ds⟩) o = execOp (Act.eval ⟨X, ds⟩) o := by
    refine execOp_congr o ?_ ?_
    ·intro cs b hc; simp [plainOp, hc] at hpl
    ·intro x hx
     refine eval_of_slots hX ?_
     rintro t rfl
     exact hl t (by simp only [Oper.looksAt, List.mem_append]; exact .inl (List.mem_filterMap.2 ⟨.tmp t, by simpa using hx, rfl⟩))
   obtain ⟨lf', hlf', hh', ρ', w', hst, hmv, hnv⟩ := alone_ok (fn := fn) (k := k) (r := r) (cs := cs) (rest := rest) hT hs hρ1 (hO.same hsame) hp1 Hk hnk hX hsn ho hpl ((wanted_run hρ1 hp1 hl).1 hw) hev ha
   have : lf' = lf := hpc.one ρ1 lf' hlf' lf hlf hh' ((hsame.holds).2 hh)
   subst this
   refine ⟨ρ', w', hmv.agr, hst, ?_, hmv.size, ?_, ?_, ?_, ?_, hmv.le, hnv, ?_⟩
   ·refine hmv.heap.part fun n o' hn' => ?_
    unfold apH at hn'
    simp only [madeOf_ok, lk_keepH] at hn'
    split at hn'
    ·rename_i o2 h2
     cases hn'
     split at h2
     ·split at h2
      ·exact h2
      ·cases h2
     ·cases h2
    ·split at hn'
     ·rename_i o2 h2
      cases hn'
      exact (W1 n _ (lk_mem h2)).1
     ·rename_i h1 h2
      split at hn'
      ·cases hn'
      ·rename_i hg
       split at hn'
       ·rename_i ht
        exact W2 n o' ht hn' h2 (by
         cases hx : memN n (goneOf h lf'.heap F) with
         | false => rfl
         | true => exact absurd hx hg)
       ·cases hn'
   ·intro kk hkk hne
    refine hmv.same kk hkk ?_
    intro n o' hn'
    rw [lk_keepH] at hn'
    split at hn'
    ·rename_i ht; exact hne n o' ht hn'
    ·cases hn'
   ·intro x hx
    simp only [madeOf_ok, lk_keepH] at hx
    split at hx
    ·rename_i hle
     split at hx
     ·obtain ⟨o2, h2⟩ := Option.isSome_iff_exists.1 hx
      rcases hmv.dom x o2 h2 with ⟨p, hp⟩ | ⟨d1, d2, d3⟩
      ·have := (hnk x p hp).1; omega
      ·refine ⟨d1, d2, ?_⟩
       rcases d3 with d3 | ⟨m, p, d4, d5⟩
       ·exact .inl d3
       ·rw [lk_keepH] at d4
        split at d4
        ·rename_i ht; exact .inr ⟨m, p, ht, d4, d5⟩
        ·cases d4
     ·cases hx
    ·cases hx
   ·intro x hx
    obtain ⟨g1, g2, _⟩ := (goneOf_ok h lf'.heap F x).1 hx
    exact ⟨g1, g2⟩
   ·intro x hx
    obtain ⟨o2, h2⟩ := Option.isSome_iff_exists.1 hx
    obtain ⟨a1, a2, a3⟩ := W1 x o2 (lk_mem h2)
    exact ⟨a2, a3⟩
   ·intro x o' hx y hy
    have : lk lf'.heap x = some o' := by
     rcases hx with hx | hx
     ·simp only [madeOf_ok, lk_keepH] at hx
      split at hx
      ·split at hx
       ·exact hx
       ·cases hx
      ·cases hx
     ·exact (W1 x _ (lk_mem hx)).1
    exact (hmv.names x o' this).2 y hy
  ·intro x
   have hgw : memN x (goneOf h lf.heap F) = true → lk ws x = none := by
    intro hg
    obtain ⟨_, _, g3⟩ := (goneOf_ok h lf.heap F x).1 hg
    cases hx : lk ws x with
    | none => rfl
    | some o2 =>
     have := (W1 x o2 (lk_mem hx)).1
     rw [g3] at this; cases this
   rw [lk_append, lk_rmAll, lk_upAll ws h x (fun m a b h1 h2 => by have := (W1 m a h1).1; rw [(W1 m b h2).1] at this; exact (Option.some.inj this).symm) (fun m a h1 => (W1 m a h1).2.2)]
   unfold apH
   simp only []
   cases lk (madeOf nx (keepH (reach lf.heap (lf.val.names ++ F)) lf.heap)) x with
   | some o2 => rfl
   | none =>
    simp only []
    cases hg : memN x (goneOf h lf.heap F) with
    | true => simp [hgw hg]
    | false => cases lk ws x <;> simp
end
end Go.Proofs.Ythenenacmiiphaa.Sx
