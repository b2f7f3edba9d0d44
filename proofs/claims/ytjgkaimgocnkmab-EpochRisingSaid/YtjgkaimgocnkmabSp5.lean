/- A reckoner of Go's small steps over letters: values that are built, calls; all operations. No condition. -/
import Derived.Test.YtjgkaimgocnkmabSp4h
set_option linter.unusedVariables false
set_option linter.unusedSimpArgs false
set_option linter.deprecated false
namespace Go.Proofs.Ytjgkaimgocnkmab.Sx
open Go
section
variable {P : Program} {T : Tab} {ρ : Rho} {b0 : World} {pc : List BE} {h : SHeap} {nx : Nat} {w : World} {sl : Slots} {a : Act} {S : Sem Next}

theorem foldl_set (vs : List Value) : ∀ (j off : Nat) (cells : Array Value), off + j + vs.length ≤ cells.size →
    (vs.zipIdx j).foldl (fun (cs : Array Value) (p : Value × Nat) => cs.setIfInBounds (off + p.2) p.1) cells = (cells.toList.take (off + j) ++ vs ++ cells.toList.drop (off + j + vs.length)).toArray := by
  induction vs with
  | nil => intro j off cells h; simp
  | cons v vs ih =>
    intro j off cells h
    simp only [List.zipIdx_cons, List.foldl_cons, List.length_cons] at h ⊢
    rw [ih (j + 1) off _ (by simp; omega)]
    congr 1
    have e := list_seg_step cells.toList (off + j) v vs (by simp; omega)
    simpa [Array.toList_setIfInBounds, Nat.add_assoc, Nat.add_comm 1] using e
theorem fill_ok (places place : Nat → Option (Nat × Nat)) (hpl : ∀ i p, places i = some p → place i = some p) : ∀ (parts : List (Nat × SV)) (cells cs' : List SV), fillS places cells parts = some cs' →
    Instr.fill place (SV.denL ρ cells).toArray (parts.map fun p => (p.1, p.2.den ρ)) = some (SV.denL ρ cs').toArray ∧ (∀ m ∈ SV.namesL cs', m ∈ SV.namesL cells ∨ ∃ p ∈ parts, m ∈ p.2.names) := by
  intro parts
  induction parts with
  | nil => intro cells cs' h; simp only [fillS] at h; cases h; exact ⟨rfl, fun m hm => .inl hm⟩
  | cons p parts ih =>
    obtain ⟨i, v⟩ := p
    intro cells cs' h
    simp only [fillS] at h
    split at h
    · rename_i off size vs h1 h2
      split at h
      · rename_i h3
        split at h
        · rename_i h4
          have h3' : vs.length = size := by simpa using h3
          have h4' : off + vs.length ≤ cells.length := Nat.le_of_ble_eq_true h4
          obtain ⟨c1, c2⟩ := cells_den ρ _ _ h2
          obtain ⟨r1, r2⟩ := ih _ _ h
          refine ⟨?_, ?_⟩
          · simp only [List.map_cons, Instr.fill, hpl _ _ h1, c1]
            have hf := foldl_set (SV.denL ρ vs) 0 off (SV.denL ρ cells).toArray (by simp [denL_length]; omega)
            simp only [Nat.add_zero] at hf
            have hs : ¬ ((SV.denL ρ vs).toArray.size ≠ size || off + (SV.denL ρ vs).toArray.size > (SV.denL ρ cells).toArray.size) = true := by
              simp [denL_length]; omega
            rw [if_neg (by simpa using hs)]
            rw [show (SV.denL ρ vs).toArray.zipIdx.foldl (fun cs (c, j) => cs.setIfInBounds (off + j) c) (SV.denL ρ cells).toArray = (((SV.denL ρ vs).zipIdx 0).foldl (fun (cs : Array Value) (p : Value × Nat) => cs.setIfInBounds (off + p.2) p.1) (SV.denL ρ cells).toArray) by
              rw [← Array.foldl_toList]; simp]
            rw [hf]
            have : (SV.denL ρ (puts cells off vs)) = (SV.denL ρ cells).toArray.toList.take off ++ SV.denL ρ vs ++ (SV.denL ρ cells).toArray.toList.drop (off + (SV.denL ρ vs).length) := by
              rw [puts_eq vs cells off h4', denL_append, denL_append, denL_take, denL_drop, denL_length]
            rw [← this]
            exact r1
          · intro m hm
            rcases r2 m hm with hm | ⟨q, hq, hm⟩
            · rw [puts_eq vs cells off h4'] at hm
              obtain ⟨u, hu, hm2⟩ := mem_namesL.1 hm
              rcases List.mem_append.1 hu with hu | hu
              · rcases List.mem_append.1 hu with hu | hu
                · exact .inl (mem_namesL.2 ⟨u, List.mem_of_mem_take hu, hm2⟩)
                · exact .inr ⟨(i, v), List.mem_cons_self .., c2 ▸ mem_namesL.2 ⟨u, hu, hm2⟩⟩
              · exact .inl (mem_namesL.2 ⟨u, List.mem_of_mem_drop hu, hm2⟩)
            · exact .inr ⟨q, List.mem_cons_of_mem _ hq, hm⟩
        · cases h
      · cases h
    · cases h
theorem run_mapM_list {α β : Type} (f : α → Sem β) (g : α → β) (l : List α) (hf : ∀ x ∈ l, ∀ w, (f x).run P w = .ok (g x) w) (w : World) : (l.mapM f).run P w = .ok (l.map g) w := by
  induction l with
  | nil => simp
  | cons x l ih =>
    simp only [List.mapM_cons, Sem.run_bind, hf x (by simp) w, Result.andThen_ok, ih (fun y hy => hf y (by simp [hy])), Sem.run_pure, List.map_cons]
theorem allTy_ok (fs : List (Nat × TypeId)) (h : allTy T fs = true) : ∀ p ∈ fs, ∃ ti, T.ty.get p.2 = some ti := by
  induction fs with
  | nil => simp
  | cons p fs ih =>
    simp only [allTy] at h
    split at h
    · rename_i ti hti
      intro q hq
      rcases List.mem_cons.1 hq with rfl | hq
      · exact ⟨ti, hti⟩
      · exact ih h q hq
    · cases h
theorem parts_den (hsl : SlotsR ρ sl a.tmps) (parts : Array (Nat × Operand)) : (parts.map fun (i, x) => (i, a.eval x)).toList = (parts.toList.map fun p => (p.1, ev sl p.2)).map fun p => (p.1, p.2.den ρ) := by
  simp [Function.comp_def, ev_den hsl]
theorem parts_names (hs : SNames nx sl) (parts : Array (Nat × Operand)) : ∀ p ∈ (parts.toList.map fun p => (p.1, ev sl p.2)), NamesV nx p.2 := by
  intro p hp
  obtain ⟨q, _, rfl⟩ := List.mem_map.1 hp
  exact ev_names hs q.2
theorem build_ok (hT : T.Ok P) (H : HeapR ρ b0 h w) (hn : HNames nx h) (hsl : SlotsR ρ sl a.tmps) (hs : SNames nx sl) (t : TypeId) (parts : Array (Nat × Operand)) :
    ORok P ρ b0 h nx w (do pure (.value (← Instr.build t (parts.map fun (i, x) => (i, a.eval x))))) (opBuild T h nx sl t parts) := by
  unfold opBuild symBuild
  have hpn := parts_names hs parts
  have hpd := parts_den hsl parts
  generalize hL : (parts.toList.map fun p => (p.1, ev sl p.2)) = L at *
  split
  · rename_i ti hti
    have hty := hT.ty t ti hti
    obtain ⟨d, hd, hst, _⟩ := hty.und
    obtain ⟨i, z, hi, hsz, hz, hc, _⟩ := hty.info
    split
    · rename_i fs hu
      rw [hu] at hst
      obtain ⟨F, rfl, hF⟩ := hst
      split
      · rename_i hall
        split
        · rename_i cs hcs
          have hsz' : ∀ f ∈ F.toList, ∃ k, (sizeOf f.type : Sem Nat).run P = fun w => .ok k w := by
            intro f hf
            obtain ⟨tf, htf⟩ := allTy_ok fs hall (f.offset, f.type) (by rw [← hF]; exact List.mem_map.2 ⟨f, hf, rfl⟩)
            obtain ⟨i', z', hi', _, _, _, _⟩ := (hT.ty _ tf htf).info
            exact ⟨i'.size, funext fun w => run_sizeOf' hi' w⟩
          have hcell : ∀ f ∈ F.toList, ∀ w, (sizeOf f.type : Sem Nat).run P w = .ok (P.cellsOf f.type) w := by
            intro f hf w
            obtain ⟨tf, htf⟩ := allTy_ok fs hall (f.offset, f.type) (by rw [← hF]; exact List.mem_map.2 ⟨f, hf, rfl⟩)
            obtain ⟨i', z', hi', _, _, _, _⟩ := (hT.ty _ tf htf).info
            rw [run_sizeOf' hi' w]; simp [Program.cellsOf, hi']
          have hmap : ∀ w, ((F.mapM fun f => do pure (f.offset, ← sizeOf f.type) : Sem (Array (Nat × Nat)))).run P w = .ok (F.map fun f => (f.offset, P.cellsOf f.type)) w := by
            intro w
            rw [Array.mapM_eq_mapM_toList]
            have := run_mapM_list (P := P) (fun f : Field => (do pure (f.offset, ← sizeOf f.type) : Sem (Nat × Nat))) (fun f => (f.offset, P.cellsOf f.type)) F.toList (fun f hf w => by simp [hcell f hf w]) w
            simp only [Sem.run_map, this, Result.andThen_ok]
            congr 1
            apply Array.ext'
            simp
          obtain ⟨r1, r2⟩ := fill_ok (ρ := ρ) (structPlaces T fs) ((F.map fun f => (f.offset, P.cellsOf f.type))[·]?) (by
            intro j p hp
            unfold structPlaces at hp
            split at hp
            · rename_i q hq
              obtain ⟨f, hf, ho, ht⟩ := field_at hF hq
              split at hp
              · rename_i tf htf
                cases hp
                obtain ⟨i', z', hi', hs', _, _, _⟩ := (hT.ty _ tf htf).info
                simp [hf, ho, ht, Program.cellsOf, hi', hs']
              · cases hp
            · cases hp) L ti.zero cs hcs
          refine okSame H hn _ ?_ ?_
          · simp only [Instr.build, Sem.run_bind, run_zeroOf hi hz, Result.andThen_ok, run_underlying hd, hmap, Sem.run_pure, hpd, hc ρ, r1]
            simp [SV.den]
          · intro m hm
            simp only [SV.names] at hm
            rcases r2 m hm with hm | ⟨p, hp, hm⟩
            · rw [hty.zn] at hm; cases hm
            · exact hpn p hp m hm
        · trivial
      · trivial
    · rename_i len el hu
      rw [hu] at hst
      simp only [StOk] at hst
      subst hst
      split
      · rename_i te hte
        obtain ⟨i', z', hi', hs', _, _, _⟩ := (hT.ty _ te hte).info
        split
        · rename_i cs hcs
          obtain ⟨r1, r2⟩ := fill_ok (ρ := ρ) _ (fun i => some (i * te.size, te.size)) (fun _ _ h => h) L ti.zero cs hcs
          refine okSame H hn _ ?_ ?_
          · simp only [Instr.build, Sem.run_bind, run_zeroOf hi hz, Result.andThen_ok, run_underlying hd, run_sizeOf' hi', hs', Sem.run_pure, hpd, hc ρ, r1]
            simp [SV.den]
          · intro m hm
            simp only [SV.names] at hm
            rcases r2 m hm with hm | ⟨p, hp, hm⟩
            · rw [hty.zn] at hm; cases hm
            · exact hpn p hp m hm
        · trivial
      · trivial
    · trivial
  · trivial
theorem buildSlice_ok (hT : T.Ok P) (H : HeapR ρ b0 h w) (hn : HNames nx h) (hsl : SlotsR ρ sl a.tmps) (hs : SNames nx sl) (t : TypeId) (len : Nat) (parts : Array (Nat × Operand)) :
    ORok P ρ b0 h nx w (do pure (.value (← Instr.buildSlice t len (parts.map fun (i, x) => (i, a.eval x))))) (opBuildSlice T h nx sl t len parts) := by
  unfold opBuildSlice symBuildSlice
  have hpn := parts_names hs parts
  have hpd := parts_den hsl parts
  generalize hL : (parts.toList.map fun p => (p.1, ev sl p.2)) = L at *
  split
  · rename_i ti hti
    have hty := hT.ty t ti hti
    obtain ⟨d, hd, hst, _⟩ := hty.und
    split
    · rename_i e hu
      rw [hu] at hst
      simp only [StOk] at hst
      subst hst
      split
      · rename_i te hte
        have hte' := hT.ty e te hte
        obtain ⟨i', z', hi', hs', hz', hc', _⟩ := hte'.info
        split
        · rename_i hle
          have hle' : len * te.size ≤ 4096 := Nat.le_of_ble_eq_true hle
          split
          · rename_i cs hcs
            obtain ⟨r1, r2⟩ := fill_ok (ρ := ρ) _ (fun i => some (i * te.size, te.size)) (fun _ _ h => h) L (reps te.zero len) cs hcs
            have hzl : (SV.denL ρ te.zero).length = te.size := by rw [denL_length]; exact hte'.zl
            have hcells : (Array.range (len * te.size)).map (fun i => ((SV.denL ρ te.zero).toArray)[i % (SV.denL ρ te.zero).toArray.size]!) = (SV.denL ρ (reps te.zero len)).toArray := by
              rw [reps_den, ← reps_get, hzl]
            have hnames : ∀ m ∈ SV.namesL cs, m < nx := by
              intro m hm
              rcases r2 m hm with hm | ⟨p, hp, hm⟩
              · have := reps_names _ _ m hm; rw [hte'.zn] at this; cases this
              · exact hpn p hp m hm
            refine ⟨_, _, _, ?_, .inl rfl, Move.new H hn (.cells cs e) _ rfl hnames, fun n hm => by simp [SV.names] at hm; omega⟩
            have h24 : ¬ len * te.size > 2 ^ 24 := by omega
            by_cases h0 : len * te.size = 0
            · have hz0 : (SV.denL ρ (reps te.zero len)).toArray = #[] := by
                rw [← hcells, h0]; simp
              rw [hz0] at r1
              have r1' : Instr.fill (fun i => some (i * te.size, te.size)) (Array.map (fun _ => (default : Value)) (Array.range 0)) (List.map (fun p => (p.fst, SV.den ρ p.snd)) L) = some (SV.denL ρ cs).toArray := by
                rw [show (Array.map (fun _ => (default : Value)) (Array.range 0)) = #[] by simp]; exact r1
              simp only [Instr.buildSlice, Sem.run_bind, run_underlying hd, Result.andThen_ok, run_sizeOf' hi', hs', h24, if_false, h0, if_true, Sem.run_pure, hpd]
              simp [h0, r1, r1', newRow, SV.den, Rho.set_a]
            · simp only [Instr.buildSlice, Sem.run_bind, run_underlying hd, Result.andThen_ok, run_sizeOf' hi', hs', h24, if_false, h0, run_zeroOf hi' hz', Sem.run_pure, hpd, hc' ρ, hcells, r1]
              simp [hcells, r1, newRow, SV.den, Rho.set_a]
          · trivial
        · trivial
      · trivial
    · trivial
  · trivial
theorem args_den (hsl : SlotsR ρ sl a.tmps) (l : Array Operand) : (SV.denL ρ (l.toList.map (ev sl))).toArray = l.map a.eval := by
  rw [denL_eq, List.map_map]
  apply Array.ext'
  simp
  exact fun x _ => (ev_den hsl x).symm
theorem call_ok (hT : T.Ok P) (hρ : ρ.Ok) (hp : Holds ρ pc) (hrom : RomOk T.orac b0 ρ) (H : HeapR ρ b0 h w) (hn : HNames nx h) (hsl : SlotsR ρ sl a.tmps) (hs : SNames nx sl) (c : Call) (ty : TypeId) :
    ORok P ρ b0 h nx w (do let d ← resolve a.eval c ty; invoke d.target d.args) (symCall T pc h nx sl c) := by
  have hargs : ∀ l : List Operand, NamesL nx (l.map (ev sl)) := by
    intro l v hv
    obtain ⟨x, _, rfl⟩ := List.mem_map.1 hv
    exact ev_names hs x
  unfold symCall
  split
  · rename_i b hb
    split
    · rename_i t ts x xs ht hx
      have e1 : c.argTypes[0]? = some t := by rw [← Array.getElem?_toList, ht]; rfl
      have e2 : (c.args.map a.eval)[0]? = some ((ev sl x).den ρ) := by
        rw [Array.getElem?_map, ← Array.getElem?_toList, hx]; simp [ev_den hsl]
      have hlen : ∀ (len : IE) (base : Option Addr) (cap : Nat), (ev sl x).den ρ = .slice base (len.den ρ).toNat cap → ORok P ρ b0 h nx w (do let d ← resolve a.eval c ty; invoke d.target d.args) (lenLs T pc h nx t len) := by
        intro len base cap he
        unfold lenLs
        split
        · rename_i ti hti
          obtain ⟨d, hd, hst, _⟩ := (hT.ty t ti hti).und
          split
          · rename_i e hu
            rw [hu] at hst
            simp only [StOk] at hst
            subst hst
            refine needO_ok hρ hp (fun hd0 => ?_)
            have g0 := le_t hd0
            rw [lit_den] at g0
            refine okSame H hn _ ?_ (fun m hm => by cases hm)
            rw [he] at e2
            simp [resolve, hb, invoke, builtin, Builtin.len_, e1, e2, run_underlying hd, SV.den, goInt]
            omega
          · trivial
        · trivial
      split
      · rename_i r off len cap he
        exact hlen len _ _ (by rw [he]; simp only [SV.den]; rfl)
      · rename_i n cn z off len cap he
        exact hlen len _ _ (by rw [he]; simp only [SV.den]; rfl)
      · rename_i l he
        unfold lenStr
        split
        · rename_i ti hti
          obtain ⟨d, hd, hst, _⟩ := (hT.ty t ti hti).und
          split
          · rename_i hu
            rw [hu] at hst
            simp only [StOk] at hst
            subst hst
            refine okSame H hn _ ?_ (fun m hm => by cases hm)
            rw [he] at e2
            simp [resolve, hb, invoke, builtin, Builtin.len_, e1, e2, run_underlying hd, SV.den, goInt, byteL_size, lenE_den hρ hp]
          · trivial
        · trivial
      · rename_i v0 he
        revert he
        intro he
        split
        · rename_i v hv
          unfold symLen at hv
          split at hv
          · rename_i ti hti
            obtain ⟨d, hd, hst, _⟩ := (hT.ty t ti hti).und
            split at hv
            · rename_i n y hu
              cases hv
              rw [hu] at hst
              simp only [StOk] at hst
              subst hst
              refine okSame H hn _ ?_ (fun m hm => by cases hm)
              simp [resolve, hb, invoke, builtin, Builtin.len_, e1, e2, run_underlying hd, SV.den, IE.den, goInt]
            · rename_i e n off len cap hu he
              cases hv
              rw [hu] at hst
              simp only [StOk] at hst
              subst hst
              refine okSame H hn _ ?_ (fun m hm => by cases hm)
              rw [he] at e2
              simp [resolve, hb, invoke, builtin, Builtin.len_, e1, e2, run_underlying hd, SV.den, IE.den, goInt]
            · rename_i e n cn sz off len hu he
              cases hv
              rw [hu] at hst
              simp only [StOk] at hst
              subst hst
              refine okSame H hn _ ?_ (fun m hm => by cases hm)
              rw [he] at e2
              simp [resolve, hb, invoke, builtin, Builtin.len_, e1, e2, run_underlying hd, SV.den, IE.den, goInt]
            · rename_i bs hu he
              cases hv
              rw [hu] at hst
              simp only [StOk] at hst
              subst hst
              refine okSame H hn _ ?_ (fun m hm => by cases hm)
              rw [he] at e2
              have hbs : (bytesOf (bs.map (IE.den ρ))).size = bs.length := by rw [bytesOf_size]; simp
              simp [resolve, hb, invoke, builtin, Builtin.len_, e1, e2, run_underlying hd, SV.den, IE.den, goInt, hbs]
            · rename_i e hu he
              cases hv
              rw [hu] at hst
              simp only [StOk] at hst
              subst hst
              refine okSame H hn _ ?_ (fun m hm => by cases hm)
              rw [he] at e2
              simp [resolve, hb, invoke, builtin, Builtin.len_, e1, e2, run_underlying hd, SV.den, IE.den, goInt]
            · cases hv
          · cases hv
        · trivial
    · -- cap
      rename_i t ts x xs ht hx
      have e1 : c.argTypes[0]? = some t := by rw [← Array.getElem?_toList, ht]; rfl
      have e2 : (c.args.map a.eval)[0]? = some ((ev sl x).den ρ) := by
        rw [Array.getElem?_map, ← Array.getElem?_toList, hx]; simp [ev_den hsl]
      have hcap : ∀ (e : IE) (base : Option Addr) (n : Nat), (ev sl x).den ρ = .slice base n (e.den ρ).toNat → ORok P ρ b0 h nx w (do let d ← resolve a.eval c ty; invoke d.target d.args) (lenLs T pc h nx t e) := by
        intro len base cap he
        unfold lenLs
        split
        · rename_i ti hti
          obtain ⟨d, hd, hst, _⟩ := (hT.ty t ti hti).und
          split
          · rename_i e hu
            rw [hu] at hst
            simp only [StOk] at hst
            subst hst
            refine needO_ok hρ hp (fun hd0 => ?_)
            have g0 := le_t hd0
            rw [lit_den] at g0
            refine okSame H hn _ ?_ (fun m hm => by cases hm)
            rw [he] at e2
            simp [resolve, hb, invoke, builtin, Builtin.cap_, e1, e2, run_underlying hd, SV.den, goInt]
            omega
          · trivial
        · trivial
      split
      · rename_i r off len e he
        exact hcap e _ _ (by rw [he]; simp only [SV.den, capDen]; rfl)
      · rename_i n cn z off len e he
        exact hcap e _ _ (by rw [he]; simp only [SV.den, capDen]; rfl)
      split
      · rename_i v hv
        unfold symCap at hv
        split at hv
        · rename_i ti hti
          obtain ⟨d, hd, hst, _⟩ := (hT.ty t ti hti).und
          split at hv
          · rename_i n y hu
            cases hv
            rw [hu] at hst
            simp only [StOk] at hst
            subst hst
            refine okSame H hn _ ?_ (fun m hm => by cases hm)
            simp [resolve, hb, invoke, builtin, Builtin.cap_, e1, e2, run_underlying hd, SV.den, IE.den, goInt]
          · rename_i e n off len cap hu he
            cases hv
            rw [hu] at hst
            simp only [StOk] at hst
            subst hst
            refine okSame H hn _ ?_ (fun m hm => by cases hm)
            rw [he] at e2
            simp [resolve, hb, invoke, builtin, Builtin.cap_, e1, e2, run_underlying hd, SV.den, IE.den, goInt]
          · rename_i e hu he
            cases hv
            rw [hu] at hst
            simp only [StOk] at hst
            subst hst
            refine okSame H hn _ ?_ (fun m hm => by cases hm)
            rw [he] at e2
            simp [resolve, hb, invoke, builtin, Builtin.cap_, e1, e2, run_underlying hd, SV.den, IE.den, goInt]
          · cases hv
        · cases hv
      · trivial
    · -- min
      rename_i x xs hx
      have ea : (c.args.map a.eval).toList = (ev sl x).den ρ :: (xs.map (ev sl)).map (SV.den ρ) := by
        rw [Array.toList_map, hx]; simp [ev_den hsl]
      split
      · rename_i v hv
        obtain ⟨r1, r2⟩ := foldM2_ok (P := P) (ρ := ρ) (w := w) (min2S pc) Builtin.min2 (fun u v r h => min2_ok hρ hp u v r h) _ _ _ (ev_names hs x) hv
        refine okSame H hn _ ?_ r2
        simp [resolve, hb, invoke, builtin, Builtin.min_]
        rw [← Array.toList_map] at *
        simp only [ea]
        rw [r1]; rfl
      · trivial
      · trivial
    · -- max
      rename_i x xs hx
      have ea : (c.args.map a.eval).toList = (ev sl x).den ρ :: (xs.map (ev sl)).map (SV.den ρ) := by
        rw [Array.toList_map, hx]; simp [ev_den hsl]
      split
      · rename_i v hv
        obtain ⟨r1, r2⟩ := foldM2_ok (P := P) (ρ := ρ) (w := w) (max2S pc) Builtin.max2 (fun u v r h => max2_ok hρ hp u v r h) _ _ _ (ev_names hs x) hv
        refine okSame H hn _ ?_ r2
        simp [resolve, hb, invoke, builtin, Builtin.max_]
        rw [← Array.toList_map] at *
        simp only [ea]
        rw [r1]; rfl
      · trivial
      · trivial
    · -- append
      rename_i t u ts x y xs ht hx
      have e1 : c.argTypes[0]? = some t := by rw [← Array.getElem?_toList, ht]; rfl
      have e1' : c.argTypes[1]? = some u := by rw [← Array.getElem?_toList, ht]; rfl
      have e2 : (c.args.map a.eval)[0]? = some ((ev sl x).den ρ) := by
        rw [Array.getElem?_map, ← Array.getElem?_toList, hx]; simp [ev_den hsl]
      have e2' : (c.args.map a.eval)[1]? = some ((ev sl y).den ρ) := by
        rw [Array.getElem?_map, ← Array.getElem?_toList, hx]; simp [ev_den hsl]
      have hA := symAppend_ok (P := P) (ty := ty) (t := t) (u := u) (s := ev sl x) (x := ev sl y) hT hρ hp H hn (ev_names hs x)
      have hB := symAppendL_ok (P := P) (ty := ty) (t := t) (u := u) (s := ev sl x) (x := ev sl y) hT hρ hp hrom H hn (ev_names hs x)
      have he : (do let d ← resolve a.eval c ty; invoke d.target d.args) = (do pure (.value (← Builtin.append_ #[t, u] ty #[(ev sl x).den ρ, (ev sl y).den ρ])) : Sem Next) := by
        have : Builtin.append_ c.argTypes ty (c.args.map a.eval) = Builtin.append_ #[t, u] ty #[(ev sl x).den ρ, (ev sl y).den ρ] := by
          unfold Builtin.append_
          rw [e1, e1', e2, e2']; rfl
        simp only [resolve, hb, pure_bind, invoke, builtin, this]
      rw [he]
      split
      · exact hB
      · split
        · exact hB
        · split
          · exact hB
          · exact hA
    · -- copy
      rename_i t u ts x y xs ht hx
      have e1 : c.argTypes[0]? = some t := by rw [← Array.getElem?_toList, ht]; rfl
      have e2 : (c.args.map a.eval)[0]? = some ((ev sl x).den ρ) := by
        rw [Array.getElem?_map, ← Array.getElem?_toList, hx]; simp [ev_den hsl]
      have e2' : (c.args.map a.eval)[1]? = some ((ev sl y).den ρ) := by
        rw [Array.getElem?_map, ← Array.getElem?_toList, hx]; simp [ev_den hsl]
      have hA := symCopy_ok (P := P) (ty := ty) (t := t) (u := u) (s := ev sl x) (x := ev sl y) hT hρ hp H hn (ev_names hs x)
      have hB := symCopyL_ok (P := P) (ty := ty) (t := t) (u := u) (s := ev sl x) (x := ev sl y) hT hρ hp hrom H hn (ev_names hs x)
      have he : (do let d ← resolve a.eval c ty; invoke d.target d.args) = (do pure (.value (← Builtin.copy_ #[t, u] ty #[(ev sl x).den ρ, (ev sl y).den ρ])) : Sem Next) := by
        have : Builtin.copy_ c.argTypes ty (c.args.map a.eval) = Builtin.copy_ #[t, u] ty #[(ev sl x).den ρ, (ev sl y).den ρ] := by
          unfold Builtin.copy_
          rw [e1, e2, e2']; rfl
        simp only [resolve, hb, pure_bind, invoke, builtin, this]
      rw [he]
      split
      · exact hB
      · exact hA
    · -- clear
      rename_i t ts x xs ht hx
      have e1 : c.argTypes[0]? = some t := by rw [← Array.getElem?_toList, ht]; rfl
      have e2 : (c.args.map a.eval)[0]? = some ((ev sl x).den ρ) := by
        rw [Array.getElem?_map, ← Array.getElem?_toList, hx]; simp [ev_den hsl]
      have hA := symClear_ok (P := P) (ty := ty) (t := t) hT H hn (ev sl x)
      have hB := symClearL_ok (P := P) (ty := ty) (t := t) hT hρ hp hrom H hn (ev sl x)
      have he : (do let d ← resolve a.eval c ty; invoke d.target d.args) = (do pure (.value (← Builtin.clear_ #[t] ty #[(ev sl x).den ρ])) : Sem Next) := by
        have : Builtin.clear_ c.argTypes ty (c.args.map a.eval) = Builtin.clear_ #[t] ty #[(ev sl x).den ρ] := by
          unfold Builtin.clear_
          rw [e1, e2]; rfl
        simp only [resolve, hb, pure_bind, invoke, builtin, this]
      rw [he]
      split
      · exact hB
      · exact hA
    · trivial
  · trivial
  · rename_i f hf
    have hfn := ev_names hs f
    split
    · rename_i g p q he
      rw [he] at hfn
      refine ⟨?_, ?_⟩
      · intro fn h1 h2 h3
        have hb : ¬ fn.body = none := by intro hh; simp [hh] at h2
        have h3' : ¬ fn.name = "runtime.NumGoroutine" := by simpa using h3
        simp [resolve, hf, ev_den hsl f, he, SV.den, fnDen, Deferred.ofValue, invoke, callFunc, h1, h3', hb, denL_append, ← args_den hsl c.args]
      · intro v hv
        rcases List.mem_append.1 hv with hv | hv
        · rcases List.mem_append.1 hv with hv | hv
          · exact fun m hm => hfn m (by simp only [SV.names, List.mem_append]; exact .inl (mem_namesL.2 ⟨v, hv, hm⟩))
          · exact hargs _ v hv
        · exact fun m hm => hfn m (by simp only [SV.names, List.mem_append]; exact .inr (mem_namesL.2 ⟨v, hv, hm⟩))
    · rename_i l q he
      rw [he] at hfn
      refine ⟨?_, hfn l (by simp [SV.names]), hargs _⟩
      simp [resolve, hf, ev_den hsl f, he, SV.den, SV.denL, fnDen, Deferred.ofValue, invoke, ← args_den hsl c.args]
    · trivial
theorem symOp_ok (hT : T.Ok P) (hρ : ρ.Ok) (hp : Holds ρ pc) (hFg : ρ.z.F = T.orac.F) (hrom : RomOk T.orac b0 ρ) (H : HeapR ρ b0 h w) (hn : HNames nx h) (hsl : SlotsR ρ sl a.tmps) (hs : SNames nx sl) (o : Oper) :
    ORok P ρ b0 h nx w (execOp a.eval o) (symOp T pc h nx sl o) := by
  obtain ⟨dst, op, ty, pos, af, gd⟩ := o
  cases op <;> simp only [symOp] <;> first
    | trivial
    | exact move_ok H hn hsl hs _
    | exact pick_ok hρ hp H hn hsl hs _ _ _
    | exact alloc_ok hT H hn _
    | exact box_ok H hn hsl hs _ _
    | exact build_ok hT H hn hsl hs _ _
    | exact buildSlice_ok hT H hn hsl hs _ _ _
    | exact load_ok hT hρ hp hFg hrom H hn hsl hs _ _
    | exact store_ok hT hρ hp hrom H hn hsl hs _ _ _
    | exact nil_ok H hn hsl hs _ _ _ _ _ _
    | exact bin_ok hT hρ hp hrom H hn hsl hs _ _ _ _
    | exact un_ok hρ hp H hn hsl _ _
    | exact conv_okX hT hρ hp hrom H hn hsl _ _ _
    | exact func_ok H hn hsl hs _ _ _
    | exact fa_ok hT H hn hsl hs _ _ _
    | exact f_ok hT H hn hsl hs _ _ _
    | exact ia_ok hT hρ hp hrom H hn hsl hs _ _ _
    | exact i_ok hT hρ hp hrom.typed H hn hsl hs _ _ _
    | exact extract_ok H hn hsl hs _ _
    | exact call_ok hT hρ hp hrom H hn hsl hs _ _
    | exact sliceX_ok hT hρ hp hrom H hn hsl hs _ _ _ _ _
    | exact makeSliceX_ok hT hρ hp hrom H hn hsl _ _ _
    | exact makeI_ok hT H hn hsl hs _ _
    | exact assert_ok hT H hn hsl hs _ _ _ _
end
end Go.Proofs.Ytjgkaimgocnkmab.Sx
