/- A reckoner of Go's small steps over letters: rows of a length that is a letter, what grows. No condition. -/
import Derived.Test.YtjgkaimgocnkmabSp4e
set_option linter.unusedVariables false
set_option linter.unusedSimpArgs false
namespace Go.Proofs.Ytjgkaimgocnkmab.Sx
open Go
section
variable {P : Program} {T : Tab} {ρ : Rho} {b0 : World} {pc : List BE} {h : SHeap} {nx : Nat} {w : World} {sl : Slots} {a : Act} {S : Sem Next}
/-- A source, by letters. -/
structure SrcL (P : Program) (ρ : Rho) (b0 : World) (h : SHeap) (sz : Nat) (v : Value) (s : LSrc) : Prop where
  len : s.len.den ρ = ((s.l.den ρ).length : Int)
  ty : ∀ ks, s.ks = some ks → Typed ks (s.l.den ρ) ∧ ks.length = sz
  no : s.ks = none → s.l.den ρ = []
  lenOf : ∀ w, (Builtin.lenOf v).run P w = .ok (s.l.den ρ).length w
  first : ∀ (w : World) (n : Nat), HeapR ρ b0 h w → n ≤ (s.l.den ρ).length → (Builtin.firstCells sz n v).run P w = .ok ((s.l.den ρ).flatten.take (n * sz)).toArray w
theorem SrcL.all {v : Value} {s : LSrc} {sz : Nat} (h1 : SrcL P ρ b0 h sz v s) {w : World} (H : HeapR ρ b0 h w) : (Builtin.firstCells sz (s.l.den ρ).length v).run P w = .ok ((s.l.den ρ).flatten).toArray w := by
  have := h1.first w _ H (Nat.le_refl _)
  rw [List.take_of_length_le] at this
  · exact this
  · cases hk : s.ks with
    | none => rw [h1.no hk]; simp
    | some ks =>
      obtain ⟨a1, a2⟩ := h1.ty ks hk
      rw [flat_len a1, a2]; exact Nat.le_refl _
theorem kindsOf_length : ∀ {vs : List SV} {ks : List CK}, kindsOf vs = some ks → ks.length = vs.length
  | [], ks, h => by simp only [kindsOf, Option.some.injEq] at h; subst h; rfl
  | v :: vs, ks, h => by
    unfold kindsOf at h
    split at h <;> first
      | (cases h; done)
      | (rename_i q; cases q; done)
      | skip
    all_goals
      rename_i q
      cases q
      split at h
      · rename_i k hk
        cases h
        simp [kindsOf_length hk]
      · cases h
/-- The first cells of a slice whose cells are there. -/
theorem first_some {l : LV} {ks : List CK} {sz : Nat} (ht : Typed ks l) (hks : ks.length = sz) {b o len cap : Nat} {w : World} (hc : ∀ (i c : Nat) (e : List Value) (v : Value), l[i]? = some e → e[c]? = some v → w.cell? ⟨b, o + i * sz + c, none⟩ = some v) {n : Nat} (hn : n ≤ l.length) :
    (Builtin.firstCells sz n (.slice (some ⟨b, o, none⟩) len cap)).run P w = .ok (l.flatten.take (n * sz)).toArray w := by
  have hle : n * sz ≤ l.length * sz := Nat.mul_le_mul_right _ hn
  have hfl : l.flatten.length = l.length * sz := by rw [flat_len ht, hks]
  refine run_firstCells_some (P := P) w sz n ⟨b, o, none⟩ len cap (l.flatten.take (n * sz)) (by rw [List.length_take, hfl]; omega) ?_
  intro j v hj
  rw [List.getElem?_take] at hj
  split at hj
  · rename_i hjn
    have hpos : 0 < sz := by
      rcases Nat.eq_zero_or_pos sz with h0 | h0
      · rw [h0] at hjn; simp at hjn
      · exact h0
    have hi : j / sz < l.length := (Nat.div_lt_iff_lt_mul hpos).2 (by omega)
    have hm : j % sz < sz := Nat.mod_lt _ hpos
    have hdm := Nat.div_add_mod j sz
    have he := List.getElem?_eq_getElem hi
    have hg := flat_get ht he (c := j % sz) (by rw [hks]; exact hm)
    have hj2 : j / sz * sz + j % sz = j := by rw [Nat.mul_comm]; exact hdm
    rw [hks, hj2, hj] at hg
    have := hc (j / sz) (j % sz) _ v he hg.symm
    rw [addr_add]
    rw [Nat.add_assoc, hj2] at this
    exact this
  · cases hj
theorem win_get {l : LV} {o n i : Nat} {e : List Value} (h : ((l.drop o).take n)[i]? = some e) : l[o + i]? = some e := by
  rw [List.getElem?_take] at h
  split at h
  · rw [List.getElem?_drop] at h; exact h
  · cases h
theorem srcL_ok (hρ : ρ.Ok) (hp : Holds ρ pc) (hn : HNames nx h) (hrom : RomsOk T.orac.rom b0 ρ) (Hw : HeapR ρ b0 h w) {sz : Nat} {x : SV} {s : LSrc} (hs : srcL T.orac.rom pc h sz x = some s) : SrcL P ρ b0 h sz (x.den ρ) s := by
  have hlt : ∀ n o, lk h n = some o → ∀ m ∈ o.names, m < nx := fun n o hl => (hn n o hl).2
  unfold srcL at hs
  split at hs
  · rename_i r off len cap
    unfold srcRom at hs
    split at hs
    · rename_i esz ks hr
      obtain ⟨r0, r1, r2, r3, r4, r5⟩ := hrom.2 r esz ks hr
      split at hs
      · rename_i hz
        have hz' : esz = sz := by simpa using hz
        subst hz'
        split at hs
        · rename_i d1 d2 d3
          cases hs
          have g1 := dec_le hρ hp d1
          have g2 := dec_le hρ hp d2
          have g3 := dec_le hρ hp d3
          rw [lit_den, resI_den hρ hp] at g1
          rw [lit_den] at g2
          rw [addE_den, resI_den hρ hp] at g3
          simp only [IE.den, LE.den, lenV] at g3
          have hw : (winL (.rom r) (.len (.rom r)) (resI pc off) len).den ρ = ((ρ.z.rl r).drop (off.den ρ).toNat).take (len.den ρ).toNat := by
            rw [winL_den (by simp only [IE.den, LE.den, lenV]), resI_den hρ hp]; simp only [LE.den]
          have hl : (((ρ.z.rl r).drop (off.den ρ).toNat).take (len.den ρ).toNat).length = (len.den ρ).toNat := by simp; omega
          refine ⟨?_, ?_, (fun hh => by cases hh), fun w => ?_, fun w n H hnl => ?_⟩
          · show len.den ρ = _; rw [hw, hl]; omega
          · intro ks' hk; cases hk; show Typed ks _ ∧ _; rw [hw]; exact ⟨(r2.drop _).take _, r0⟩
          · show _ = Result.ok (List.length (LE.den ρ _)) w; rw [hw, hl]; simp [Builtin.lenOf, SV.den]
          · show _ = Result.ok (List.take _ (List.flatten (LE.den ρ _))).toArray w
            rw [hw]
            have hnl' : n ≤ (len.den ρ).toNat := by rw [← hl, ← hw]; exact hnl
            by_cases h0 : 0 < (ρ.z.rl r).length
            · obtain ⟨q1, _⟩ := r3 h0
              simp only [SV.den, q1, Option.map_some, addr_add', r1]
              exact first_some ((r2.drop _).take _) r0 (fun i c e v he hv => by
                have := rom_cell hrom H.g0 hr (win_get he) hv
                rw [Nat.add_mul, ← Nat.add_assoc] at this
                exact this) (by rw [hl]; exact hnl')
            · have hz0 : n = 0 := by omega
              subst hz0
              cases hra : ρ.z.ra r with
              | none => simp [SV.den, hra, Builtin.firstCells]
              | some ad => simp [SV.den, hra, Builtin.firstCells, loadCells, loadCellsFrom]
        · cases hs
      · cases hs
    · cases hs
  · rename_i n cn z off len cap
    unfold srcRow at hs
    split at hs
    · rename_i c tot ks u dn zs hlk
      obtain ⟨obj, ho, rest, lo, hi, rfl, _, _, _, _, hks, ht, htot⟩ := Hw.at_ n _ hlk
      split at hs
      · rename_i hcn
        split at hs
        · rename_i hz1
          split at hs
          · rename_i hz2
            have hz1' : zs = z := by simpa using hz1
            have hz2' : zs = sz := by simpa using hz2
            subst hz1'; subst hz2'
            split at hs
            · rename_i d1 d2 d3
              cases hs
              have g1 := dec_le hρ hp d1
              have g2 := dec_le hρ hp d2
              have g3 := dec_le hρ hp d3
              rw [lit_den, resI_den hρ hp] at g1
              rw [lit_den] at g2
              rw [addE_den, resI_den hρ hp, htot] at g3
              have hw : (winL c tot (resI pc off) len).den ρ = ((c.den ρ).drop (off.den ρ).toNat).take (len.den ρ).toNat := by
                rw [winL_den htot, resI_den hρ hp]
              have hl : (((c.den ρ).drop (off.den ρ).toNat).take (len.den ρ).toNat).length = (len.den ρ).toNat := by simp; omega
              refine ⟨?_, ?_, (fun hh => by cases hh), fun w => ?_, fun w m H hnl => ?_⟩
              · show len.den ρ = _; rw [hw, hl]; omega
              · intro ks' hk; cases hk; show Typed ks _ ∧ _; rw [hw]; exact ⟨(ht.drop _).take _, hks⟩
              · show _ = Result.ok (List.length (LE.den ρ _)) w; rw [hw, hl]; simp [Builtin.lenOf, SV.den]
              · show _ = Result.ok (List.take _ (List.flatten (LE.den ρ _))).toArray w
                rw [hw]
                have hnl' : m ≤ (len.den ρ).toNat := by rw [← hl, ← hw]; exact hnl
                simp only [SV.den]
                exact first_some ((ht.drop _).take _) hks (fun i c e v he hv => by
                  have := rowl_cell H hlk (win_get he) hv
                  rw [Nat.add_mul] at this
                  exact this) (by rw [hl]; exact hnl')
            · cases hs
          · cases hs
        · cases hs
      · cases hs
    · cases hs
  · rename_i l
    split at hs
    · rename_i hz
      have hz' : sz = 1 := by simpa using hz
      subst hz'
      split at hs
      · rename_i htb
        cases hs
        have hty := typedB_ok hρ hp hrom.typed _ htb
        refine ⟨by show (lenE pc l).den ρ = _; rw [lenE_den hρ hp], ?_, (fun hh => by cases hh), fun w => ?_, fun w n H hnl => ?_⟩
        · intro ks hk; cases hk; exact ⟨hty, rfl⟩
        · simp [Builtin.lenOf, SV.den, byteL_size]
        · simp only [Builtin.firstCells, SV.den, Nat.mul_one]
          have key : ((byteL (l.den ρ)).data.map (fun b => Value.int .u8 b.toNat)) = (l.den ρ).flatten.toArray := by
            have : ∀ m : LV, Typed byteK m → (byteL m).data.map (fun b => Value.int .u8 b.toNat) = m.flatten.toArray := by
              intro m hm
              have h2 : (m.map fun c => intV (c.headD (.bool false))).map (Value.int .u8) = m.flatten ∧ ∀ x ∈ (m.map fun c => intV (c.headD (.bool false))), 0 ≤ x ∧ x ≤ 255 := by
                induction m with
                | nil => exact ⟨rfl, fun x hx => by cases hx⟩
                | cons e m ih =>
                  obtain ⟨n, rfl, h0, h1⟩ := conf_byte_inv (hm e (List.mem_cons_self ..))
                  obtain ⟨i1, i2⟩ := ih (fun x hx => hm x (List.mem_cons_of_mem _ hx))
                  refine ⟨?_, ?_⟩
                  · rw [List.map_cons, List.map_cons, i1]; rfl
                  · intro x hx
                    rw [List.map_cons] at hx
                    rcases List.mem_cons.1 hx with rfl | hx
                    · exact ⟨h0, h1⟩
                    · exact i2 x hx
              obtain ⟨h3, h4⟩ := h2
              unfold byteL bytesOf
              apply Array.ext'
              rw [← h3]
              simp only [List.map_toArray, List.map_map]
              apply List.map_congr_left
              intro e he
              obtain ⟨q0, q1⟩ := h4 _ (List.mem_map_of_mem he)
              simp only [Function.comp]
              rw [byte_back q0 q1]
            exact this _ hty
          have e1 : ((byteL (l.den ρ)).extract 0 n).data.map (fun b => Value.int .u8 b.toNat) = ((byteL (l.den ρ)).data.map (fun b => Value.int .u8 b.toNat)).extract 0 n := by
            rw [ByteArray.data_extract]
            apply Array.ext'
            simp
          rw [e1, key]
          have e2 : ((l.den ρ).flatten.toArray).extract 0 n = ((l.den ρ).flatten.take n).toArray := by
            apply Array.ext'
            simp
          rw [e2]; rfl
      · cases hs
    · cases hs
  · cases hs
    refine ⟨by simp [IE.den, LE.den], (fun ks hk => by cases hk), (fun _ => by simp only [LE.den]), fun w => by simp [Builtin.lenOf, SV.den, LE.den], fun w n H hnl => ?_⟩
    simp [Builtin.firstCells, SV.den, LE.den]
  · split at hs
    · rename_i k cs hsrc
      have hS := src_ok (P := P) hρ hp hn hlt Hw hsrc
      split at hs
      · cases hs
        refine ⟨by simp [IE.den, LE.den], (fun ks hk => by cases hk), (fun _ => by simp only [LE.den]), fun w => by rw [hS.lenOf w]; simp [LE.den], fun w n H hnl => ?_⟩
        simp only [LE.den, List.length_nil] at hnl
        have hz0 : n = 0 := by omega
        subst hz0
        rw [hS.first w 0 H (Nat.zero_le _)]; simp [LE.den, SV.denL]
      · rename_i hk0
        split at hs
        · rename_i ks hks
          split at hs
          · rename_i l hl
            cases hs
            obtain ⟨q1, q2, q3⟩ := rowsL_ok hρ hp hrom.typed k cs l hS.len hl
            refine ⟨by simp [IE.den, q1], ?_, (fun hh => by cases hh), fun w => by rw [hS.lenOf w, q1], fun w n H hnl => ?_⟩
            · intro ks' hk; cases hk
              refine ⟨q3, ?_⟩
              rw [kindsOf_length hks, List.length_take, hS.len]
              have : 1 * sz ≤ k * sz := Nat.mul_le_mul_right _ (Nat.pos_of_ne_zero (fun hq => hk0 hq))
              omega
            · rw [q1] at hnl
              rw [hS.first w n H hnl, q2, denL_take]
          · cases hs
        · cases hs
    · cases hs
/-- A new row, its content by letters. -/
theorem newRowL_ok (H : HeapR ρ b0 h w) (hn : HNames nx h) {h0 : SHeap} (hsub : ∀ k p, lk h0 k = some p → lk h k = some p) {S : Sem Next} {c : LE} {tot len : IE} {ks : List CK} {e : TypeId} {sz cap : Nat} {rest : Array Value} {lo hi : Nat} {w' : World} (hw : ∃ wd : World, HeapR ρ b0 h wd ∧ wd.heap = w.heap ∧ w'.heap = wd.heap.push (.cells ((c.den ρ).flatten.toArray ++ rest) e (lo, hi)) ∧ w'.os = wd.os ∧ w'.tape = wd.tape ∧ w'.output = wd.output)
    (hr : S.run P w = .ok (.value (.slice (some ⟨w.heap.size, 0, none⟩) (len.den ρ).toNat cap)) w') (hfz : hi ≤ lo ∨ (c.den ρ).flatten.length + rest.size ≤ lo) (hcap : (c.den ρ).flatten.length + rest.size = cap * sz) (hmax : cap ≤ maxLen) (hpos : 0 < sz)
    (hks : ks.length = sz) (ht : Typed ks (c.den ρ)) (htot : tot.den ρ = ((c.den ρ).length : Int)) :
    ORok P ρ b0 h nx w S (newRowL h0 nx c tot ks e sz len) := by
  obtain ⟨wd, Hd, e1, e2, e3, e4, e5⟩ := hw
  have g := ρ.set2_agr nx w.heap.size cap
  refine ⟨ρ.set2 nx w.heap.size cap, w', _, hr, .inl ?_, Move.row H hn hsub ?_ ?_ (.inl (Nat.le_refl _)) (obj := .cells ((c.den ρ).flatten.toArray ++ rest) e (lo, hi)) ?_ ?_ ?_ ?_ ?_, ?_⟩
  · simp [SV.den, Rho.set2_a, Rho.set2_c, capDen, IE.den_agr g, IE.den]
  · refine ⟨e3.trans Hd.g0.os, e4.trans Hd.g0.tape, e5.trans Hd.g0.output, by rw [e2]; simp; exact Nat.le_succ_of_le Hd.g0.size, fun k hk hne => ?_⟩
    have := Hd.g0.size
    rw [e2, Array.getElem?_push_lt (by omega), ← Array.getElem?_eq_getElem]
    exact Hd.g0.block k hk hne
  · rw [e2, e1]; simp
  · rw [e2, e1]; simp
  · intro k p hp
    have := H.lt (hsub k p hp)
    rw [e2, e1, Array.getElem?_push_lt this, ← Array.getElem?_eq_getElem]
  · intro k hk _
    rw [e2, e1, Array.getElem?_push_lt hk, ← Array.getElem?_eq_getElem]
  · refine ⟨rest, lo, hi, by rw [LE.den_agr g], by rw [LE.den_agr g]; exact hfz, by rw [LE.den_agr g, Rho.set2_c]; exact hcap, by rw [Rho.set2_c]; exact hmax, hpos, hks, by rw [LE.den_agr g]; exact ht, by rw [LE.den_agr g, IE.den_agr g]; exact htot⟩
  · intro m hm
    simp only [SObj.names, List.mem_cons, List.not_mem_nil, or_false] at hm
    omega
  · intro m hm
    simp only [SV.names, List.mem_cons, List.not_mem_nil, or_false] at hm
    omega
/-- Two kinds that are one. -/
theorem ksTwo_ok {a b : Option (List CK)} {ks : List CK} (h : ksTwo a b = some ks) : (a = none ∨ a = some ks) ∧ (b = none ∨ b = some ks) := by
  unfold ksTwo at h
  split at h
  · cases h; exact ⟨.inl rfl, .inr rfl⟩
  · cases h; exact ⟨.inr rfl, .inl rfl⟩
  · split at h
    · rename_i hq
      cases h
      exact ⟨.inr rfl, .inr (by rw [ksEq_eq _ _ hq])⟩
    · cases h
  · cases h
theorem SrcL.typed {v : Value} {s : LSrc} {sz : Nat} {ks : List CK} (h1 : SrcL P ρ b0 h sz v s) (hk : s.ks = none ∨ s.ks = some ks) : Typed ks (s.l.den ρ) := by
  rcases hk with hk | hk
  · rw [h1.no hk]; exact .nil _
  · exact (h1.ty ks hk).1
/-- What grows into a new row. -/
theorem growL_ok (hT : T.Ok P) (hρ : ρ.Ok) (hp : Holds ρ pc) (H : HeapR ρ b0 h w) (hn : HNames nx h) {h0 : SHeap} (hsub : ∀ k p, lk h0 k = some p → lk h k = some p) {t u ty e : TypeId} {te : TI} {du : TypeDesc} (ht : P.underlying t = some (.slice e)) (hu : P.underlying u = some du) (hd : srcTy du) (hte : T.ty.get e = some te)
    (hby : te.bytes ≤ 1000000) (hpos : 0 < te.size) {x : Value} {xs : LSrc} (hx : SrcL P ρ b0 h te.size x xs) {o : LSrc} {base : Option Addr} {sLen sCap : Nat} (ho : SrcL P ρ b0 h te.size (.slice base sLen sCap) o) (hol : (o.l.den ρ).length = sLen) (hroom : ¬ sLen + (xs.l.den ρ).length ≤ sCap) :
    ORok P ρ b0 h nx w (do pure (.value (← Builtin.append_ #[t, u] ty #[.slice base sLen sCap, x]))) (growL pc h0 nx e te.size o xs) := by
  obtain ⟨i, z, hi, hsz, hz, hzc, hib⟩ := (hT.ty _ te hte).info
  have hzl := (hT.ty _ te hte).zl
  have hzs : z.cells.size = te.size := by rw [hzc ρ]; simp [denL_length, hzl]
  have hdrew : HeapR ρ b0 h w.drew := drewN_heap H
  unfold growL
  split
  · rename_i ks hks
    obtain ⟨k1, k2⟩ := ksTwo_ok hks
    have t1 := ho.typed k1
    have t2 := hx.typed k2
    split
    · rename_i hkl
      have hkl' : ks.length = te.size := by simpa using hkl
      split
      · rename_i hd1
        have hle := dec_le hρ hp hd1
        rw [addE_den, ho.len, hx.len, lit_den] at hle
        have hold := ho.all hdrew
        have hnew := hx.all hdrew
        rw [hol] at hold
        rw [← hsz] at hold hnew
        have hfit : Builtin.nextslicecap (sLen + (xs.l.den ρ).length) sCap * i.bytes ≤ 281474976710656 := by
          refine growslice_fits (by omega) ?_
          have : (sLen + (xs.l.den ρ).length) * i.bytes ≤ 1000000 * 1000000 := Nat.mul_le_mul (by omega) (by omega)
          omega
        have hr := append_grow (ty := ty) ht hu hd hi hz (hx.lenOf w) hold hnew hroom (by omega) hfit
        have hge := grownCap_ge w (sLen + (xs.l.den ρ).length) sCap e
        have hmx := grownCap_le_maxLen w (sLen + (xs.l.den ρ).length) sCap e (by simp [maxLen]; omega)
        have hcat : (catE o.l xs.l).den ρ = o.l.den ρ ++ xs.l.den ρ := catE_den _ _
        have hcl : ((catE o.l xs.l).den ρ).length = sLen + (xs.l.den ρ).length := by rw [hcat, List.length_append, hol]
        have hal : (addE o.len xs.len).den ρ = ((sLen + (xs.l.den ρ).length : Nat) : Int) := by rw [addE_den, ho.len, hx.len, hol]; omega
        have htc : Typed ks ((catE o.l xs.l).den ρ) := by rw [hcat]; exact t1.app t2
        refine newRowL_ok H hn hsub (cap := grownCap w (sLen + (xs.l.den ρ).length) sCap e) (rest := Builtin.zeroCells z.cells (grownCap w (sLen + (xs.l.den ρ).length) sCap e - (sLen + (xs.l.den ρ).length))) (lo := 0) (hi := 0) (w' := w.drew.alloc (.cells ((o.l.den ρ).flatten.toArray ++ (xs.l.den ρ).flatten.toArray ++ Builtin.zeroCells z.cells (grownCap w (sLen + (xs.l.den ρ).length) sCap e - (sLen + (xs.l.den ρ).length))) e))
          ⟨w.drew, hdrew, rfl, ?_, rfl, rfl, rfl⟩ ?_ (.inl (Nat.le_refl _)) ?_ hmx hpos hkl' htc (by rw [hal, hcl])
        · show w.drew.heap.push _ = _
          rw [hcat]; simp
        · rw [Sem.run_bind, hr, hal]; rfl
        · rw [flat_len htc, hcl, hkl', size_zeroCells, hzs, ← Nat.add_mul]
          congr 1; omega
      · trivial
    · trivial
  · trivial
theorem append_zero {t u ty e : TypeId} {i : TypeInfo} {x : Value} {du : TypeDesc} {base : Option Addr} {sLen sCap : Nat} (ht : P.underlying t = some (.slice e)) (hu : P.underlying u = some du) (hd : srcTy du) (hi : P.info? e = some i)
    (hlen : (Builtin.lenOf x).run P w = .ok 0 w) (hnew : (Builtin.firstCells i.size 0 x).run P w = .ok #[] w) (hle : sLen ≤ sCap) :
    (Builtin.append_ #[t, u] ty #[.slice base sLen sCap, x]).run P w = .ok (.slice base sLen sCap) w := by
  rcases hd with ⟨e', rfl⟩ | rfl <;> cases base <;>
    simp [Builtin.append_, run_underlying ht, run_underlying hu, sizeOf, typeInfo, hi, hlen, hnew, hle, storeCells]
theorem SrcL.zero {v : Value} {s : LSrc} {sz : Nat} (h1 : SrcL P ρ b0 h sz v s) (H : HeapR ρ b0 h w) (hz : s.len.den ρ ≤ 0) : (s.l.den ρ).length = 0 ∧ (Builtin.lenOf v).run P w = .ok 0 w ∧ (Builtin.firstCells sz 0 v).run P w = .ok #[] w := by
  have hl := h1.len
  have h0 : (s.l.den ρ).length = 0 := by omega
  refine ⟨h0, by rw [h1.lenOf w, h0], ?_⟩
  have := h1.first w 0 H (by omega)
  simpa using this
theorem growS_ok (hT : T.Ok P) (hρ : ρ.Ok) (hp : Holds ρ pc) (hrom : RomsOk T.orac.rom b0 ρ) (H : HeapR ρ b0 h w) (hn : HNames nx h) {t u ty e : TypeId} {te : TI} {du : TypeDesc} (ht : P.underlying t = some (.slice e)) (hu : P.underlying u = some du) (hd : srcTy du) (hte : T.ty.get e = some te)
    (hby : te.bytes ≤ 1000000) (hpos : 0 < te.size) {x : Value} {xs : LSrc} (hx : SrcL P ρ b0 h te.size x xs) {s : SV} (hsn : NamesV nx s) {base : Option Addr} {len cap : IE} (hs : s.den ρ = .slice base (len.den ρ).toNat (cap.den ρ).toNat) :
    ORok P ρ b0 h nx w (do pure (.value (← Builtin.append_ #[t, u] ty #[s.den ρ, x]))) (growS T.orac.rom pc h nx e te.size s len cap xs) := by
  obtain ⟨i, z, hi, hsz, _, _, _⟩ := (hT.ty _ te hte).info
  unfold growS
  split
  · rename_i d1 d2 d3
    have g1 := dec_le hρ hp d1
    have g2 := dec_le hρ hp d2
    have g3 := dec_le hρ hp d3
    rw [lit_den] at g1 g2
    refine splitO_ok hρ hp (fun hz => ?_) (fun hz => ?_)
    · have hz' := le_t hz
      rw [lit_den] at hz'
      obtain ⟨_, z2, z3⟩ := hx.zero H hz'
      refine okSame H hn s ?_ hsn
      rw [hs, Sem.run_bind, append_zero (ty := ty) ht hu hd hi z2 (by rw [hsz]; exact z3) (by omega)]; rfl
    · split
      · rename_i d4
        have g4 := dec_lt hρ hp d4
        rw [addE_den, hx.len] at g4
        split
        · rename_i o ho
          split
          · rename_i hb
            have hol : o.len.den ρ = len.den ρ := by rw [IE.beq_eq _ _ hb]
            have hS := srcL_ok (P := P) hρ hp hn hrom H ho
            rw [hs] at hS ⊢
            have hl := hS.len
            exact growL_ok hT hρ hp H hn (fun k p hp => hp) ht hu hd hte hby hpos hx hS (by omega) (by omega)
          · trivial
        · trivial
      · trivial
  · trivial
/-- A row that goes on under a new name, with more behind what it had. -/
theorem ext_row (H : HeapR ρ b0 h w) (hn : HNames nx h) {n : Nat} {p : SObj} (hlk : lk h n = some p) {all : List Value} {rest : Array Value} {t : TypeId} {lo hi A sz : Nat} (hobj : w.heap[ρ.a n]? = some (.cells (all.toArray ++ rest) t (lo, hi))) (hfz : hi ≤ lo ∨ all.length + rest.size ≤ lo) (hcap : all.length + rest.size = A * sz) (hA : A ≤ maxLen) (hpos : 0 < sz)
    {off : Nat} {vs : List Value} (hoff : off ≤ all.length) (hend : off + vs.length ≤ all.length + rest.size) (h1 : ∀ v ∈ vs, v.oneCell' = true) {c : LE} {tot : IE} {ks : List CK} (hc : (c.den ρ).flatten = all.take off ++ vs) (hks : ks.length = sz) (ht : Typed ks (c.den ρ)) (htot : tot.den ρ = ((c.den ρ).length : Int)) :
    ∃ w', (storeCells ⟨ρ.a n, off, none⟩ vs).run P w = .ok () w' ∧ Move ρ (ρ.set2 nx (ρ.a n) A) b0 h ((nx, .rowl c tot ks t (nx + 1) sz) :: rmH n h) nx (nx + 2) w w' := by
  have hst := storeCells_run (P := P) (ρ.a n) off t (lo, hi) vs 0 _ w hobj (by rw [Array.size_append, List.size_toArray]; exact hfz) (by rw [Array.size_append, List.size_toArray]; omega) h1
  simp only [Nat.add_zero] at hst
  refine ⟨_, hst, ?_⟩
  have hlt := H.lt hlk
  have hown := H.own n _ hlk
  have g := ρ.set2_agr nx (ρ.a n) A
  obtain ⟨CS, hCS⟩ : ∃ CS, CS = ((all.toArray ++ rest).toList.take off ++ vs ++ (all.toArray ++ rest).toList.drop (off + vs.length)).toArray := ⟨_, rfl⟩
  rw [← hCS]
  have hcell : CS = (c.den ρ).flatten.toArray ++ ((all.toArray ++ rest).toList.drop (off + vs.length)).toArray := by
    rw [hCS, hc]
    apply Array.ext'
    simp only [Array.toList_append, List.append_assoc]
    rw [List.take_append_of_le_length hoff]
  have hoth : ∀ k, k ≠ ρ.a n → (w.setRow (ρ.a n) CS).heap[k]? = w.heap[k]? := fun k hk => setRow_other w (ρ.a n) k _ hk
  have hcl : (c.den ρ).flatten.length = off + vs.length := by rw [hc, List.length_append, List.length_take]; omega
  have hdl : ((all.toArray ++ rest).toList.drop (off + vs.length)).length = all.length + rest.size - (off + vs.length) := by simp
  have hsub0 : ∀ k p, lk (rmH n h) k = some p → lk h k = some p := by
    intro m q hq
    rw [lk_rmH] at hq
    split at hq
    · cases hq
    · exact hq
  refine Move.row H hn hsub0 (A := ρ.a n) (C := A) (obj := .cells CS t (lo, hi)) ?_ (by simp) (.inr ⟨n, _, hlk, rfl, by rw [lk_rmH]; simp⟩) ?_ ?_ ?_ ?_ ?_
  · refine ⟨H.g0.os, H.g0.tape, H.g0.output, by simpa using H.g0.size, fun k hk hne => ?_⟩
    rw [hoth k (by omega)]; exact H.g0.block k hk hne
  · exact setRow_heap w (ρ.a n) _ _ t _ hobj
  · intro m q hq
    rw [lk_rmH] at hq
    split at hq
    · cases hq
    · rename_i hmn
      exact hoth _ (fun he => hmn (H.inj m n q _ hq hlk he))
  · intro k hk hne
    exact hoth k (fun he => hne n _ hlk he.symm)
  · refine ⟨((all.toArray ++ rest).toList.drop (off + vs.length)).toArray, lo, hi, by rw [LE.den_agr g, hcell], ?_, ?_, by rw [Rho.set2_c]; exact hA, hpos, hks, by rw [LE.den_agr g]; exact ht, by rw [LE.den_agr g, IE.den_agr g]; exact htot⟩
    · rw [LE.den_agr g, hcl, List.size_toArray, hdl]; omega
    · rw [LE.den_agr g, hcl, List.size_toArray, hdl, Rho.set2_c]; omega
  · intro m hm
    simp only [SObj.names, List.mem_cons, List.not_mem_nil, or_false] at hm
    omega
/-- What is appended to a row of one's own whose capacity is not told. -/
theorem ownGrow_ok (hT : T.Ok P) (hρ : ρ.Ok) (hp : Holds ρ pc) (H : HeapR ρ b0 h w) (hn : HNames nx h) {t u ty e : TypeId} {te : TI} {du : TypeDesc} (ht : P.underlying t = some (.slice e)) (hu : P.underlying u = some du) (hd : srcTy du) (hte : T.ty.get e = some te)
    (hby : te.bytes ≤ 1000000) (hpos : 0 < te.size) {x : Value} {xs : LSrc} (hx : SrcL P ρ b0 h te.size x xs) {n : Nat} {p : SObj} (hlk : lk h n = some p) {all : List Value} {rest : Array Value} {lo hi A : Nat} (hobj : w.heap[ρ.a n]? = some (.cells (all.toArray ++ rest) e (lo, hi)))
    (hfz : hi ≤ lo ∨ all.length + rest.size ≤ lo) (hcap : all.length + rest.size = A * te.size) (hA : A ≤ maxLen) {o : LSrc} {len : Nat} (ho : SrcL P ρ b0 h te.size (.slice (some ⟨ρ.a n, 0, none⟩) len A) o) (hol : (o.l.den ρ).length = len) (hall : (o.l.den ρ).flatten = all.take (len * te.size)) (hla : len * te.size ≤ all.length) :
    ORok P ρ b0 h nx w (do pure (.value (← Builtin.append_ #[t, u] ty #[.slice (some ⟨ρ.a n, 0, none⟩) len A, x]))) (growL pc (rmH n h) nx e te.size o xs) := by
  have hsub0 : ∀ k p, lk (rmH n h) k = some p → lk h k = some p := by
    intro m q hq
    rw [lk_rmH] at hq
    split at hq
    · cases hq
    · exact hq
  by_cases hroom : len + (xs.l.den ρ).length ≤ A
  · obtain ⟨i, z, hi', hsz, _, _, _⟩ := (hT.ty _ te hte).info
    unfold growL
    split
    · rename_i ks hks
      obtain ⟨k1, k2⟩ := ksTwo_ok hks
      have t1 := ho.typed k1
      have t2 := hx.typed k2
      split
      · rename_i hkl
        have hkl' : ks.length = te.size := by simpa using hkl
        split
        · have hxl : (xs.l.den ρ).flatten.length = (xs.l.den ρ).length * te.size := by rw [flat_len t2, hkl']
          have hsum : len * te.size + (xs.l.den ρ).length * te.size ≤ A * te.size := by rw [← Nat.add_mul]; exact Nat.mul_le_mul_right _ hroom
          have hcat : (catE o.l xs.l).den ρ = o.l.den ρ ++ xs.l.den ρ := catE_den _ _
          have hal : (addE o.len xs.len).den ρ = ((len + (xs.l.den ρ).length : Nat) : Int) := by rw [addE_den, ho.len, hx.len, hol]; omega
          obtain ⟨w', hst, hmv⟩ := ext_row (P := P) H hn hlk hobj hfz hcap hA hpos (off := len * te.size) (vs := (xs.l.den ρ).flatten) hla (by omega) (typed_one t2) (c := catE o.l xs.l) (tot := addE o.len xs.len) (by rw [hcat, List.flatten_append, hall]) hkl' (by rw [hcat]; exact t1.app t2) (by rw [hal, hcat, List.length_append, hol])
          have g := ρ.set2_agr nx (ρ.a n) A
          refine ⟨_, w', .value (.slice (some ⟨ρ.a n, 0, none⟩) (len + (xs.l.den ρ).length) A), ?_, .inl ?_, hmv, ?_⟩
          · rw [Sem.run_bind, append_in (ty := ty) (off := 0) (new := (xs.l.den ρ).flatten) ht hu hd hi' (hx.lenOf w) (by rw [hsz]; exact hx.all H) hroom (by rw [hsz, Nat.zero_add]; exact hst)]; rfl
          · simp [SV.den, Rho.set2_a, Rho.set2_c, capDen, IE.den_agr g, IE.den, hal]
            omega
          · intro m hm
            simp only [SV.names, List.mem_cons, List.not_mem_nil, or_false] at hm
            omega
        · trivial
      · trivial
    · trivial
  · exact growL_ok hT hρ hp H hn hsub0 ht hu hd hte hby hpos hx ho hol hroom
/-- What is written into a row, between what stays. -/
theorem mid_row {te : Nat} {c m : LE} {tot : IE} {ks : List CK} (hks : ks.length = te) (ht : Typed ks (c.den ρ)) (htot : tot.den ρ = ((c.den ρ).length : Int)) (hm : Typed ks (m.den ρ)) {o k : IE} (h0 : 0 ≤ o.den ρ) (hk : k.den ρ = o.den ρ + ((m.den ρ).length : Int)) (hle : k.den ρ ≤ tot.den ρ) :
    ((catE (catE (winL c tot (.lit 0) o) m) (winL c tot k (subE tot k))).den ρ).flatten = (c.den ρ).flatten.take ((o.den ρ).toNat * te) ++ (m.den ρ).flatten ++ (c.den ρ).flatten.drop ((o.den ρ).toNat * te + (m.den ρ).flatten.length) ∧
    Typed ks ((catE (catE (winL c tot (.lit 0) o) m) (winL c tot k (subE tot k))).den ρ) ∧ ((catE (catE (winL c tot (.lit 0) o) m) (winL c tot k (subE tot k))).den ρ).length = (c.den ρ).length := by
  have w1 : (winL c tot (.lit 0) o).den ρ = (c.den ρ).take (o.den ρ).toNat := by rw [winL_den htot]; simp [IE.den]
  have w2 : (winL c tot k (subE tot k)).den ρ = (c.den ρ).drop (k.den ρ).toNat := by
    rw [winL_den htot, subE_den, htot, List.take_of_length_le]
    simp; omega
  rw [catE_den, catE_den, w1, w2]
  have hkn : (k.den ρ).toNat = (o.den ρ).toNat + (m.den ρ).length := by omega
  refine ⟨?_, ((ht.take _).app hm).app (ht.drop _), ?_⟩
  · rw [List.flatten_append, List.flatten_append, flat_take _ _ ht, flat_drop _ _ ht, hks, flat_len hm, hks, hkn, Nat.add_mul]
  · simp only [List.length_append, List.length_take, List.length_drop]; omega
theorem append_place {t u ty e : TypeId} {i : TypeInfo} {x : Value} {du : TypeDesc} {g sLen sCap k : Nat} {new : List Value} {w' : World} (ht : P.underlying t = some (.slice e)) (hu : P.underlying u = some du) (hd : srcTy du) (hi : P.info? e = some i)
    (hlen : (Builtin.lenOf x).run P w = .ok k w) (hnew : (Builtin.firstCells i.size k x).run P w = .ok new.toArray w) (hroom : sLen + k ≤ sCap) (hst : (storeCells ⟨g, sLen * i.size, none⟩ new).run P w = .ok () w') :
    (Builtin.append_ #[t, u] ty #[.slice (some ⟨g, 0, none⟩) sLen sCap, x]).run P w = .ok (.slice (some ⟨g, 0, none⟩) (sLen + k) sCap) w' :=
  append_in (ty := ty) (off := 0) ht hu hd hi hlen hnew hroom (by rw [Nat.zero_add]; exact hst)
theorem appendL_ok (hT : T.Ok P) (hρ : ρ.Ok) (hp : Holds ρ pc) (hrom : RomsOk T.orac.rom b0 ρ) (H : HeapR ρ b0 h w) (hn : HNames nx h) {t u ty e : TypeId} {te : TI} {du : TypeDesc} (ht : P.underlying t = some (.slice e)) (hu : P.underlying u = some du) (hd : srcTy du) (hte : T.ty.get e = some te)
    (hby : te.bytes ≤ 1000000) (hpos : 0 < te.size) {x : Value} {xs : LSrc} (hx : SrcL P ρ b0 h te.size x xs) {s : SV} (hsn : NamesV nx s) :
    ORok P ρ b0 h nx w (do pure (.value (← Builtin.append_ #[t, u] ty #[s.den ρ, x]))) (appendL T.orac.rom pc h nx e te.size s xs) := by
  obtain ⟨i, z, hi, hsz, _, _, _⟩ := (hT.ty _ te hte).info
  unfold appendL
  split
  · -- nil
    have hnil : SrcL P ρ b0 h te.size (.slice none 0 0) ⟨.lit 0, .nil, none⟩ := ⟨by simp [IE.den, LE.den], (fun ks hk => by cases hk), (fun _ => by simp only [LE.den]), fun w => by simp [Builtin.lenOf, LE.den], fun w n H hnl => by simp [Builtin.firstCells, LE.den]⟩
    refine splitO_ok hρ hp (fun hz => ?_) (fun hz => ?_)
    · have hz' := le_t hz
      rw [lit_den] at hz'
      obtain ⟨_, z2, z3⟩ := hx.zero H hz'
      refine okSame H hn _ ?_ hsn
      simp only [SV.den]
      rw [Sem.run_bind, append_zero (ty := ty) ht hu hd hi z2 (by rw [hsz]; exact z3) (Nat.le_refl _)]; rfl
    · have hz' := le_f hz
      rw [lit_den, hx.len] at hz'
      simp only [SV.den]
      exact growL_ok hT hρ hp H hn (fun k p hp => hp) ht hu hd hte hby hpos hx hnil (by simp [LE.den]) (by omega)
  · rename_i n off len cap
    exact growS_ok hT hρ hp hrom H hn ht hu hd hte hby hpos hx hsn (base := some ⟨ρ.a n, off, none⟩) (by simp [SV.den, IE.den])
  · rename_i r off len c
    exact growS_ok hT hρ hp hrom H hn ht hu hd hte hby hpos hx hsn (base := _) (by simp only [SV.den, capDen]; rfl)
  · rename_i n cn z' off len c
    exact growS_ok hT hρ hp hrom H hn ht hu hd hte hby hpos hx hsn (base := _) (by simp only [SV.den, capDen]; rfl)
  · rename_i n cn zz len
    split
    · rename_i c tot ks uu dn zs hlk
      split
      · rename_i q1
        split
        · rename_i q2
          split
          · rename_i q3
            split
            · rename_i q4
              split
              · rename_i q5
                have q1' : zs = zz := by simpa using q1
                have q2' : zz = te.size := by simpa using q2
                have q3' : dn = cn := by simpa using q3
                have q4' : uu = e := by simpa using q4
                subst q1'; subst q3'; subst q4'
                subst q2'
                obtain ⟨obj, ho, rest, lo, hi', rfl, hfz, hcap, hmx, _, hks, htc, htot⟩ := H.at_ n _ hlk
                have hfl : (c.den ρ).flatten.length = (c.den ρ).length * te.size := by rw [flat_len htc, hks]
                have hAge : (c.den ρ).length ≤ ρ.a dn := by
                  have : (c.den ρ).length * te.size ≤ ρ.a dn * te.size := by omega
                  exact Nat.le_of_mul_le_mul_right this hpos
                have hxt : Typed ks (xs.l.den ρ) := by
                  unfold ksFits at q5
                  split at q5
                  · rename_i k hk
                    rw [← ksEq_eq _ _ q5] at hk
                    exact hx.typed (.inr hk)
                  · rename_i hk; exact hx.typed (.inl hk)
                have hxl : (xs.l.den ρ).flatten.length = (xs.l.den ρ).length * te.size := by rw [flat_len hxt, hks]
                refine needO_ok hρ hp (fun d1 => needO_ok hρ hp (fun d2 => splitO_ok hρ hp (fun d3 => ?_) (fun d3 => ?_)))
                · have g1 := le_t d1
                  have g2 := le_t d2
                  have g3 := le_t d3
                  rw [lit_den] at g1
                  rw [addE_den, hx.len, htot] at g3
                  obtain ⟨m1, m2, m3⟩ := mid_row (ρ := ρ) (m := xs.l) (o := len) (k := addE len xs.len) hks htc htot hxt g1 (by rw [addE_den, hx.len]) (by rw [addE_den, hx.len, htot]; exact g3)
                  have hln : (len.den ρ).toNat + (xs.l.den ρ).length ≤ (c.den ρ).length := by omega
                  have hmul : (len.den ρ).toNat * te.size + (xs.l.den ρ).length * te.size ≤ (c.den ρ).length * te.size := by rw [← Nat.add_mul]; exact Nat.mul_le_mul_right _ hln
                  obtain ⟨w', hst, hmv⟩ := rowl_write (P := P) (off := (len.den ρ).toNat * te.size) (vs := (xs.l.den ρ).flatten) H hn hlk (by rw [hfl, hxl]; exact hmul) (typed_one hxt) m1 m2 m3
                  unfold inPlace
                  refine ⟨ρ, w', .value (.slice (some ⟨ρ.a n, 0, none⟩) ((len.den ρ).toNat + (xs.l.den ρ).length) (ρ.a dn)), ?_, .inl ?_, hmv, fun m hm => hsn m (by simpa [SV.names] using hm)⟩
                  · rw [Sem.run_bind]
                    have hden : (SV.sll n dn te.size (.lit (.ofNat 0)) len none).den ρ = .slice (some ⟨ρ.a n, 0, none⟩) (len.den ρ).toNat (ρ.a dn) := by simp [SV.den, IE.den, capDen]
                    rw [hden, append_place (ty := ty) ht hu hd hi (hx.lenOf w) (by rw [hsz]; exact hx.all H) (by omega) (by rw [hsz]; exact hst)]; rfl
                  · have : (addE len xs.len).den ρ = (((len.den ρ).toNat + (xs.l.den ρ).length : Nat) : Int) := by rw [addE_den, hx.len]; omega
                    simp [SV.den, IE.den, capDen, this]
                    omega
                · have g1 := le_t d1
                  have g2 := le_t d2
                  rw [lit_den] at g1
                  rw [htot] at g2
                  have hden : (SV.sll n dn te.size (.lit (.ofNat 0)) len none).den ρ = .slice (some ⟨ρ.a n, 0, none⟩) (len.den ρ).toNat (ρ.a dn) := by simp [SV.den, IE.den, capDen]
                  rw [hden]
                  have hw : (winL c tot (.lit 0) len).den ρ = (c.den ρ).take (len.den ρ).toNat := by rw [winL_den htot]; simp [IE.den]
                  have hol : ((winL c tot (.lit 0) len).den ρ).length = (len.den ρ).toNat := by rw [hw, List.length_take]; omega
                  have hS : SrcL P ρ b0 h te.size (.slice (some ⟨ρ.a n, 0, none⟩) (len.den ρ).toNat (ρ.a dn)) ⟨len, winL c tot (.lit 0) len, some ks⟩ := by
                    refine ⟨by show len.den ρ = _; rw [hol]; omega, (fun ks' hk => by cases hk; show Typed ks _ ∧ _; rw [hw]; exact ⟨htc.take _, hks⟩), (fun hh => by cases hh), fun w => by show _ = Result.ok (List.length (LE.den ρ _)) w; rw [hol]; simp [Builtin.lenOf], fun w m Hw hm => ?_⟩
                    show _ = Result.ok (List.take _ (List.flatten (LE.den ρ _))).toArray w
                    rw [hw]
                    exact first_some (htc.take _) hks (fun i c e v he hv => by
                      rw [List.getElem?_take] at he
                      split at he
                      · rw [Nat.zero_add]; exact rowl_cell Hw hlk he hv
                      · cases he) (by rw [← hw]; exact hm)
                  exact ownGrow_ok hT hρ hp H hn ht hu hd hte hby hpos hx hlk ho hfz hcap hmx hS hol (by rw [hw, flat_take _ _ htc, hks]) (by rw [hfl]; exact Nat.mul_le_mul_right _ (by omega))
              · trivial
            · trivial
          · trivial
        · trivial
      · trivial
    · trivial
  · rename_i n cn zz len
    split
    · rename_i cs uu dn zs hlk
      split
      · rename_i q1
        split
        · rename_i q2
          split
          · rename_i q3
            split
            · rename_i q4
              split
              · rename_i q5
                split
                · rename_i o hos
                  split
                  · rename_i hb
                    have q1' : zs = zz := by simpa using q1
                    have q2' : zz = te.size := by simpa using q2
                    have q3' : dn = cn := by simpa using q3
                    have q4' : uu = e := by simpa using q4
                    have q5' : cs.length = len * te.size := by simpa using q5
                    subst q1'; subst q3'; subst q4'
                    subst q2'
                    have hol := congrArg (IE.den ρ) (IE.beq_eq _ _ hb)
                    rw [lit_den] at hol
                    have hS := srcL_ok (P := P) hρ hp hn hrom H hos
                    have hden : (SV.sl n dn te.size 0 len).den ρ = .slice (some ⟨ρ.a n, 0, none⟩) len (ρ.a dn) := by simp [SV.den]
                    rw [hden] at hS ⊢
                    obtain ⟨obj, ho, rest, lo, hi', rfl, hfz, hcap, hmx, _⟩ := H.at_ n _ hlk
                    have hl := hS.len
                    have hol' : (o.l.den ρ).length = len := by omega
                    have hal := hS.all H
                    rw [hol'] at hal
                    have hfc := run_firstCells_some (P := P) w te.size len ⟨ρ.a n, 0, none⟩ len (ρ.a dn) (SV.denL ρ cs) (by rw [denL_length, q5']) (fun j v hj => by
                      rw [denL_get] at hj
                      cases hq2 : cs[j]? with
                      | none => simp [hq2] at hj
                      | some uq =>
                        simp [hq2] at hj
                        rw [addr_add, Nat.zero_add, cell_at H hlk rfl hq2, hj])
                    rw [hfc] at hal
                    have hfl : (o.l.den ρ).flatten = SV.denL ρ cs := by
                      have := hal
                      simp only [Result.ok.injEq, and_true] at this
                      have := congrArg Array.toList this
                      simpa using this.symm
                    exact ownGrow_ok hT hρ hp H hn ht hu hd hte hby hpos hx hlk ho (by rw [denL_length]; exact hfz) (by rw [denL_length]; exact hcap) hmx hS hol' (by rw [hfl, List.take_of_length_le (by rw [denL_length, q5']; exact Nat.le_refl _)]) (by rw [denL_length, q5']; exact Nat.le_refl _)
                  · trivial
                · trivial
              · trivial
            · trivial
          · trivial
        · trivial
      · trivial
    · trivial
  · trivial
end
end Go.Proofs.Ytjgkaimgocnkmab.Sx
