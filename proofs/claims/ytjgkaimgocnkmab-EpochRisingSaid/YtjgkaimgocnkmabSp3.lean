/- A reckoner of Go's small steps over letters: each operation does as it is reckoned. No condition. -/
import Derived.Test.YtjgkaimgocnkmabSp2
set_option linter.unusedVariables false
set_option linter.unusedSimpArgs false
namespace Go.Proofs.Ytjgkaimgocnkmab.Sx
open Go

def StOk : ST → TypeDesc → Prop
  | .int k, d => d = .int k
  | .bool, d => d = .bool
  | .slice e, d => d = .slice e
  | .arr n e, d => d = .array n e
  | .str, d => d = .string
  | .ptr, d => ∃ e, d = .pointer e
  | .func, d => ∃ a b c, d = .func a b c
  | .iface, d => ∃ ms, d = .interface ms
  | .map k e, d => d = .map k e
  | .struct fs, d => ∃ F, d = .struct F ∧ F.toList.map (fun f => (f.offset, f.type)) = fs
  | .other, _ => True
/-- Two values of such cells are equal as their cells are. -/
def EqOk (P : Program) (t : TypeId) (ks : List CK) : Prop :=
  ∀ (ρ : Rho) (xs ys : List SV) (c : BE) (w : World) (x y : Operand), eqCells ks xs ys = some c →
    ((do eqGuard .eql t x y (.agg (SV.denL ρ xs).toArray) (.agg (SV.denL ρ ys).toArray); binOp .eql t (.agg (SV.denL ρ xs).toArray) (.agg (SV.denL ρ ys).toArray)) : Sem Value).run P w = .ok (.bool (c.den ρ)) w ∧
    ((do eqGuard .neq t x y (.agg (SV.denL ρ xs).toArray) (.agg (SV.denL ρ ys).toArray); binOp .neq t (.agg (SV.denL ρ xs).toArray) (.agg (SV.denL ρ ys).toArray)) : Sem Value).run P w = .ok (.bool (!c.den ρ)) w
structure TyOk (P : Program) (t : TypeId) (ti : TI) : Prop where
  info : ∃ i z, P.info? t = some i ∧ i.size = ti.size ∧ i.zero = some z ∧ (∀ ρ, z.cells = (SV.denL ρ ti.zero).toArray) ∧ i.bytes = ti.bytes
  zn : SV.namesL ti.zero = []
  zl : ti.zero.length = ti.size
  za : ∀ i z, P.info? t = some i → i.zero = some z → (ti.agg = true → ∃ cs, z = .agg cs) ∧ (ti.agg = false → ∀ cs, z ≠ .agg cs)
  und : ∃ d, P.underlying t = some d ∧ StOk ti.und d ∧ ti.agg = d.isRow
structure Tab.Ok (P : Program) (T : Tab) : Prop where
  ty : ∀ t ti, T.ty.get t = some ti → TyOk P t ti
  fn : ∀ f fn, T.fn.get f = some fn → P.funcs[f]? = some fn ∧ (fn.name == "runtime.NumGoroutine") = false
  code : ∀ f fn c, T.fn.get f = some fn → fn.body = some c → codeOk c = true
  eqs : ∀ t ks, lk T.eqs t = some ks → EqOk P t ks
  mixed : P.follows .mixedOrders = true
  posts : PostsOk T.orac

section
variable {P : Program} {T : Tab}
theorem run_zeroOf {t : TypeId} {i : TypeInfo} {z : Value} (hi : P.info? t = some i) (hz : i.zero = some z) (w : World) : (zeroValue t).run P w = .ok z w := by
  simp [zeroValue, typeInfo, hi, hz]
theorem run_sizeOf' {t : TypeId} {i : TypeInfo} (hi : P.info? t = some i) (w : World) : (sizeOf t).run P w = .ok i.size w := by
  simp [sizeOf, typeInfo, hi]
theorem run_isAgg {t : TypeId} {d : TypeDesc} (h : P.underlying t = some d) (w : World) : (isAgg t).run P w = .ok d.isRow w := by
  unfold isAgg
  rw [Sem.run_bind, run_underlying h w]
  cases d <;> simp
theorem cells_one (ρ : Rho) (v : SV) (h1 : ∀ l, v ≠ .agg l) (h2 : ∀ n, v ≠ .opq n) (h3 : ∀ l, v ≠ .const (.agg l)) (h4 : ∀ l i j, v ≠ .cel l i j) : (v.den ρ).cells = #[v.den ρ] := by
  cases v <;> first
    | (exact absurd rfl (h1 _))
    | (exact absurd rfl (h2 _))
    | (exact absurd rfl (h4 _ _ _))
    | (simp [SV.den, Value.cells]; done)
    | skip
  rename_i u
  cases u <;> first
    | (exact absurd rfl (h3 _))
    | (simp [SV.den, Value.cells])
theorem cells_den (ρ : Rho) (v : SV) (cs : List SV) (h : v.cells = some cs) : (v.den ρ).cells = (SV.denL ρ cs).toArray ∧ SV.namesL cs = v.names := by
  unfold SV.cells at h
  split at h
  · cases h; exact ⟨by simp [SV.den, Value.cells], rfl⟩
  · cases h
  · cases h
  · cases h
  · rename_i h1 h2 h3 h4
    cases h
    exact ⟨by rw [cells_one ρ v (fun l e => h1 l e) (fun l e => h2 l e) (fun l e => h3 l e) (fun l i j e => h4 l i j e)]; simp [SV.denL], by simp [SV.namesL]⟩
theorem one_den (ρ : Rho) (v : SV) (h : v.one = true) : (v.den ρ).oneCell' = true := by
  unfold SV.one at h
  split at h <;> first
    | (cases h; done)
    | skip
  rename_i h1 h2 h3 h4 h5 h6
  cases v <;> first
    | (exact absurd rfl (h1 _))
    | (exact absurd rfl (h2 _))
    | (exact absurd rfl (h3 _))
    | (exact absurd rfl (h6 _ _ _))
    | (simp [SV.den, Value.oneCell']; done)
    | skip
  rename_i u
  cases u <;> first
    | (exact absurd rfl (h4 _))
    | (exact absurd rfl (h5 _))
    | (simp [SV.den, Value.oneCell'])
theorem allOne_den (ρ : Rho) (l : List SV) (h : allOne l = true) : ∀ v ∈ SV.denL ρ l, v.oneCell' = true := by
  induction l with
  | nil => simp [SV.denL]
  | cons v l ih =>
    simp only [allOne] at h
    split at h
    · rename_i hv
      intro u hu
      simp only [SV.denL, List.mem_cons] at hu
      rcases hu with rfl | hu
      · exact one_den ρ v hv
      · exact ih h u hu
    · cases h
theorem denL_length (ρ : Rho) (l : List SV) : (SV.denL ρ l).length = l.length := by simp [denL_eq]
theorem denL_get (ρ : Rho) (l : List SV) (i : Nat) : (SV.denL ρ l)[i]? = (l[i]?).map (SV.den ρ) := by simp [denL_eq]
theorem denL_append (ρ : Rho) (l m : List SV) : SV.denL ρ (l ++ m) = SV.denL ρ l ++ SV.denL ρ m := by simp [denL_eq]
theorem denL_take (ρ : Rho) (l : List SV) (n : Nat) : SV.denL ρ (l.take n) = (SV.denL ρ l).take n := by simp [denL_eq]
theorem denL_drop (ρ : Rho) (l : List SV) (n : Nat) : SV.denL ρ (l.drop n) = (SV.denL ρ l).drop n := by simp [denL_eq]
theorem puts_eq (vs : List SV) : ∀ (cs : List SV) (off : Nat), off + vs.length ≤ cs.length → puts cs off vs = cs.take off ++ vs ++ cs.drop (off + vs.length) := by
  induction vs with
  | nil => intro cs off h; simp [puts]
  | cons v vs ih =>
    intro cs off h
    simp only [List.length_cons] at h
    rw [puts, put_eq, ih _ _ (by simp; omega)]
    simp only [List.length_cons]
    apply List.ext_getElem?
    intro k
    simp only [List.getElem?_append, List.length_append, List.length_take, List.length_set, List.getElem?_take, List.getElem?_drop, List.getElem?_set, List.length_cons]
    rw [Nat.min_eq_left (by omega), Nat.min_eq_left (by omega)]
    by_cases h1 : k < off
    · simp [h1, show k < off + 1 by omega, show k < off + 1 + vs.length by omega, show k < off + (vs.length + 1) by omega, show ¬ off = k by omega]
    · by_cases h2 : k = off
      · subst h2
        simp [show k < k + 1 + vs.length by omega, show k < cs.length by omega]
      · by_cases h3 : k < off + 1 + vs.length
        · obtain ⟨j, rfl⟩ : ∃ j, k = off + 1 + j := ⟨k - (off + 1), by omega⟩
          simp [show off + 1 + j < off + 1 + vs.length by omega, show ¬ off + 1 + j < off + 1 by omega, show ¬ off + 1 + j < off by omega, show off + 1 + j < off + (vs.length + 1) by omega, show off + 1 + j - off = j + 1 by omega]
        · have e1 : off + 1 + vs.length + (k - (off + 1 + vs.length)) = k := by omega
          have e2 : off + (vs.length + 1) + (k - (off + (vs.length + 1))) = k := by omega
          simp [h3, show ¬ k < off + (vs.length + 1) by omega, e1, e2, show ¬ off = k by omega]
theorem namesL_of_mem {l : List SV} {N : Nat} : (∀ m ∈ SV.namesL l, m < N) ↔ ∀ v ∈ l, NamesV N v := NamesL.iff.symm
theorem namesL_sub {l l' : List SV} {N : Nat} (h : ∀ m ∈ SV.namesL l, m < N) (hs : ∀ v ∈ l', v ∈ l) : ∀ m ∈ SV.namesL l', m < N := by
  rw [namesL_of_mem] at *
  exact fun v hv => h v (hs v hv)

/-- What an operation does. -/
def ORok (P : Program) (ρ : Rho) (b0 : World) (h : SHeap) (nx : Nat) (w : World) (S : Sem Next) : OR → Prop
  | .val v h' nx' => ∃ ρ' w' nv, S.run P w = .ok nv w' ∧ (nv = .value (v.den ρ') ∨ (nv = .skip ∧ v = .tup [])) ∧ Move ρ ρ' b0 h h' nx nx' w w' ∧ NamesV nx' v
  | .enter f args => (∀ fn, P.funcs[f]? = some fn → fn.body.isSome = true → (fn.name == "runtime.NumGoroutine") = false → S.run P w = .ok (.enter f (SV.denL ρ args).toArray) w) ∧ NamesL nx args
  | .round l args => S.run P w = (Instr.yield (ρ.a l) (SV.denL ρ args).toArray).run P w ∧ l < nx ∧ NamesL nx args
  | .split _ => True
  | .fail _ => True
section
variable {ρ : Rho} {b0 : World} {pc : List BE} {h : SHeap} {nx : Nat} {w : World} {sl : Slots} {a : Act} {S : Sem Next}
theorem okSame (H : HeapR ρ b0 h w) (hn : HNames nx h) (v : SV) (hr : S.run P w = .ok (.value (v.den ρ)) w) (hv : NamesV nx v) : ORok P ρ b0 h nx w S (.val v h nx) :=
  ⟨ρ, w, _, hr, .inl rfl, Move.rfl' H hn, hv⟩
theorem okNew (H : HeapR ρ b0 h w) (hn : HNames nx h) (cs : List SV) (t : TypeId) (hr : S.run P w = .ok (.value (.pointer (some ⟨w.heap.size, 0, none⟩))) (w.alloc (.cells (SV.denL ρ cs).toArray t))) (hv : ∀ m ∈ SV.namesL cs, m < nx) :
    ORok P ρ b0 h nx w S (newCells h nx cs t) :=
  ⟨_, _, _, hr, .inl (by simp [SV.den, Rho.set_a]), Move.new H hn (.cells cs t) _ rfl hv, fun n hm => by simp [SV.names] at hm; omega⟩
theorem move_ok (H : HeapR ρ b0 h w) (hn : HNames nx h) (hsl : SlotsR ρ sl a.tmps) (hs : SNames nx sl) (x : Operand) : ORok P ρ b0 h nx w (pure (.value (a.eval x))) (opMove h nx sl x) :=
  okSame H hn _ (by rw [ev_den hsl]; rfl) (ev_names hs x)
theorem pick_ok (hρ : ρ.Ok) (hp : Holds ρ pc) (H : HeapR ρ b0 h w) (hn : HNames nx h) (hsl : SlotsR ρ sl a.tmps) (hs : SNames nx sl) (c x y : Operand) :
    ORok P ρ b0 h nx w (do pure (.value (if ← asBool (a.eval c) then a.eval x else a.eval y))) (opPick pc h nx sl c x y) := by
  unfold opPick
  split
  · rename_i t ht
    split
    · rename_i hd
      have := dec_den hρ hp _ _ hd
      exact okSame H hn _ (by simp [ev_den hsl, ht, SV.den, this, asBool]) (ev_names hs x)
    · rename_i hd
      have := dec_den hρ hp _ _ hd
      exact okSame H hn _ (by simp [ev_den hsl, ht, SV.den, this, asBool]) (ev_names hs y)
    · trivial
  · trivial
theorem alloc_ok (hT : T.Ok P) (H : HeapR ρ b0 h w) (hn : HNames nx h) (t : TypeId) : ORok P ρ b0 h nx w (do pure (.value (← Instr.alloc t true (.tuple #[])))) (opAlloc T h nx t) := by
  unfold opAlloc
  split
  · rename_i ti hti
    have hty := hT.ty t ti hti
    obtain ⟨i, z, hi, _, hz, hc, _⟩ := hty.info
    refine okNew H hn _ _ ?_ (by rw [hty.zn]; simp)
    simp [Instr.alloc, run_zeroOf hi hz, newVar, newRow, hc ρ]
  · trivial
theorem box_ok (H : HeapR ρ b0 h w) (hn : HNames nx h) (hsl : SlotsR ρ sl a.tmps) (hs : SNames nx sl) (t : TypeId) (x : Operand) : ORok P ρ b0 h nx w (do pure (.value (← Instr.box t (a.eval x)))) (opBox h nx sl t x) := by
  unfold opBox
  split
  · rename_i cs hcs
    obtain ⟨h1, h2⟩ := cells_den ρ _ _ hcs
    refine okNew H hn _ _ ?_ (by rw [h2]; exact ev_names hs x)
    simp [Instr.box, newVar, newRow, ev_den hsl, h1]
  · trivial
/-- What cells a thing has, whichever it is; and with others in their stead. -/
theorem obj_cells {o : SObj} {obj : Obj} {cs : List SV} (hR : ObjR ρ o obj) (hc : o.cs = some cs) :
    ∃ (rest : Array Value) (t : TypeId) (lo hi : Nat), obj = .cells ((SV.denL ρ cs).toArray ++ rest) t (lo, hi) ∧ (hi ≤ lo ∨ cs.length + rest.size ≤ lo) ∧
      (∀ cs', cs'.length = cs.length → ObjR ρ (o.put cs') (.cells ((SV.denL ρ cs').toArray ++ rest) t (lo, hi))) ∧ (∀ m ∈ SV.namesL cs, m ∈ o.names) ∧ (∀ cs', ∀ m ∈ (o.put cs').names, m ∈ SV.namesL cs' ∨ m ∈ o.names) := by
  cases o with
  | cells c t =>
    simp only [SObj.cs, Option.some.injEq] at hc
    subst hc
    simp only [ObjR] at hR
    subst hR
    refine ⟨#[], t, 0, 0, by simp, .inl (Nat.le_refl _), fun cs' _ => by simp [SObj.put, ObjR], fun m hm => by simpa [SObj.names] using hm, fun cs' m hm => .inl (by simpa [SObj.put, SObj.names] using hm)⟩
  | row c t cn sz =>
    simp only [SObj.cs, Option.some.injEq] at hc
    subst hc
    obtain ⟨rest, lo, hi, rfl, h1, h2, h3⟩ := hR
    refine ⟨rest, t, lo, hi, rfl, h1, ?_, fun m hm => by simp [SObj.names, hm], ?_⟩
    · intro cs' hl
      refine ⟨rest, lo, hi, rfl, by rw [hl]; exact h1, by rw [hl]; exact h2, h3⟩
    · intro cs' m hm
      simp only [SObj.put, SObj.names, List.mem_cons] at hm ⊢
      rcases hm with hm | hm
      · exact .inr (.inl hm)
      · exact .inl hm
  | rowl => simp [SObj.cs] at hc
  | loop => simp [SObj.cs] at hc
  | defd => simp [SObj.cs] at hc
theorem ocs_some {n : Nat} {cs : List SV} (hc : ocs h n = some cs) : ∃ o, lk h n = some o ∧ o.cs = some cs := by
  unfold ocs at hc
  split at hc
  · rename_i o ho; exact ⟨o, ho, hc⟩
  · cases hc
theorem cell_at {n : Nat} {o : SObj} {cs : List SV} (H : HeapR ρ b0 h w) (hl : lk h n = some o) (hc : o.cs = some cs) {j : Nat} {v : SV} (hv : cs[j]? = some v) : w.cell? ⟨ρ.a n, j, none⟩ = some (v.den ρ) := by
  obtain ⟨obj, ho, hR⟩ := H.at_ n _ hl
  obtain ⟨rest, t, lo, hi, rfl, _⟩ := obj_cells hR hc
  have hj : j < cs.length := (List.getElem?_eq_some_iff.1 hv).1
  simp only [World.cell?, ho]
  rw [Array.getElem?_append_left (by simpa [denL_length] using hj)]
  simp [denL_get, hv]
theorem load_run (hT : T.Ok P) (H : HeapR ρ b0 h w) (t : TypeId) (n off : Nat) (v : SV) (h' : SHeap) (nx' : Nat) (hl : loadAt T h nx t n off = .val v h' nx') :
    (loadVar t ⟨ρ.a n, off, none⟩).run P w = .ok (v.den ρ) w ∧ h' = h ∧ nx' = nx ∧ ∃ o, lk h n = some o ∧ ∀ m ∈ v.names, m ∈ o.names := by
  unfold loadAt at hl
  split at hl
  · rename_i ti cs hti hocs
    obtain ⟨o, hlk, hcs⟩ := ocs_some hocs
    have hty := hT.ty t ti hti
    obtain ⟨obj, ho, hR⟩ := H.at_ n _ hlk
    obtain ⟨_, _, _, _, _, _, _, hsub, _⟩ := obj_cells hR hcs
    obtain ⟨d, hd, _, hag⟩ := hty.und
    obtain ⟨i, z, hi, hsz, _, _, _⟩ := hty.info
    split at hl
    · rename_i ha
      split at hl
      · rename_i hle
        cases hl
        have hle' : off + ti.size ≤ cs.length := Nat.le_of_ble_eq_true hle
        refine ⟨?_, rfl, rfl, o, hlk, ?_⟩
        · have := run_loadVar_mid (P := P) w (ρ.a n) off t (SV.denL ρ ((cs.drop off).take ti.size)) d ?_ hd (by rw [← hag]; exact ha) (by rw [hi]; simp [hsz, denL_length]; omega)
          · simpa [SV.den] using this
          · intro j v hj
            rw [denL_get, List.getElem?_take] at hj
            split at hj
            · rw [List.getElem?_drop] at hj
              cases hq : cs[off + j]? with
              | none => simp [hq] at hj
              | some u =>
                simp [hq] at hj
                rw [cell_at H hlk hcs hq, hj]
            · simp at hj
        · intro m hm
          simp only [SV.names] at hm
          obtain ⟨v, hv, h2⟩ := mem_namesL.1 hm
          exact hsub m (mem_namesL.2 ⟨v, List.mem_of_mem_drop (List.mem_of_mem_take hv), h2⟩)
      · cases hl
    · rename_i ha
      split at hl
      · rename_i v' hv
        cases hl
        rw [nth_eq] at hv
        refine ⟨?_, rfl, rfl, o, hlk, fun m hm => hsub m (mem_namesL.2 ⟨v, List.mem_of_getElem? hv, hm⟩)⟩
        have hc : w.cell? ⟨ρ.a n, off, none⟩ = some (v.den ρ) := cell_at H hlk hcs hv
        have hr : d.isRow = false := by rw [← hag]; simpa using ha
        simp [loadVar, run_isAgg hd, hr, hc]
      · cases hl
  · cases hl
/- rows, flat -/
theorem conf1_one {k : CK} {v : Value} (h : conf1 k v = true) : v.oneCell' = true := by
  cases k <;> cases v <;> simp_all [conf1, Value.oneCell']
theorem conf_one : ∀ {ks : List CK} {e : List Value}, conf ks e = true → ∀ v ∈ e, v.oneCell' = true
  | [], [], _, v, hv => by cases hv
  | [], _ :: _, h, _, _ => by simp [conf] at h
  | _ :: _, [], h, _, _ => by simp [conf] at h
  | k :: ks, u :: e, h, v, hv => by
    simp only [conf] at h
    split at h
    · rcases List.mem_cons.1 hv with rfl | hv
      · exact conf1_one ‹_›
      · exact conf_one h v hv
    · cases h
theorem typed_one {ks : List CK} {l : LV} (h : Typed ks l) : ∀ v ∈ l.flatten, v.oneCell' = true := by
  intro v hv
  obtain ⟨e, he, hve⟩ := List.mem_flatten.1 hv
  exact conf_one (h e he) v hve
theorem flat_len {ks : List CK} : ∀ {l : LV}, Typed ks l → l.flatten.length = l.length * ks.length
  | [], _ => by simp
  | e :: l, h => by
    have h1 := conf_length (h e (List.mem_cons_self ..))
    have h2 := flat_len (l := l) (h.sub fun x hx => List.mem_cons_of_mem _ hx)
    simp only [List.flatten_cons, List.length_append, List.length_cons, h1, h2, Nat.add_mul]; omega
theorem flat_take {ks : List CK} : ∀ (l : LV) (n : Nat), Typed ks l → (l.take n).flatten = l.flatten.take (n * ks.length)
  | [], n, _ => by simp
  | e :: l, 0, _ => by simp
  | e :: l, n + 1, h => by
    have h1 := conf_length (h e (List.mem_cons_self ..))
    have h2 := flat_take l n (h.sub fun x hx => List.mem_cons_of_mem _ hx)
    simp only [List.take_succ_cons, List.flatten_cons, h2]
    rw [List.take_append, List.take_of_length_le (l := e) (by rw [h1, Nat.add_mul]; omega)]
    congr 2
    rw [h1, Nat.add_mul]; omega
theorem flat_drop {ks : List CK} : ∀ (l : LV) (n : Nat), Typed ks l → (l.drop n).flatten = l.flatten.drop (n * ks.length)
  | [], n, _ => by simp
  | e :: l, 0, _ => by simp
  | e :: l, n + 1, h => by
    have h1 := conf_length (h e (List.mem_cons_self ..))
    have h2 := flat_drop l n (h.sub fun x hx => List.mem_cons_of_mem _ hx)
    simp only [List.drop_succ_cons, List.flatten_cons, h2]
    rw [List.drop_append, List.drop_eq_nil_of_le (as := e) (by rw [h1, Nat.add_mul]; omega), List.nil_append]
    congr 1
    rw [h1, Nat.add_mul]; omega
theorem flat_set {ks : List CK} {l : LV} {i : Nat} {e : List Value} (h : Typed ks l) (hi : i < l.length) (he : conf ks e = true) : (l.set i e).flatten = l.flatten.take (i * ks.length) ++ e ++ l.flatten.drop (i * ks.length + e.length) := by
  rw [List.set_eq_take_append_cons_drop, if_pos hi, List.flatten_append, List.flatten_cons, flat_take l i h, flat_drop l (i + 1) h, conf_length he, Nat.add_mul, Nat.one_mul, List.append_assoc]
theorem flat_get {ks : List CK} {l : LV} (h : Typed ks l) {i : Nat} {e : List Value} (hi : l[i]? = some e) {c : Nat} (hc : c < ks.length) : l.flatten[i * ks.length + c]? = e[c]? := by
  have h1 : (l.drop i).flatten = l.flatten.drop (i * ks.length) := flat_drop l i h
  have h2 : l.drop i = e :: l.drop (i + 1) := by
    have hlt := (List.getElem?_eq_some_iff.1 hi).1
    rw [List.drop_eq_getElem_cons hlt, (List.getElem?_eq_some_iff.1 hi).2]
  have h3 := congrArg (·[c]?) h1
  simp only [h2, List.flatten_cons, List.getElem?_drop] at h3
  rw [← h3, List.getElem?_append_left]
  rw [conf_length (h e (List.mem_of_getElem? hi))]; exact hc
/-- What the packages' variables hold, as b0 has it. -/
def GlobOk (F : Fns) (b0 : World) : Prop := ∀ g cs i v, lk F.g g = some cs → cs[i]? = some v → b0.cell? ⟨g, i, none⟩ = some v ∧ g < b0.heap.size
/-- What came in, as b0 holds it. -/
def RomsOk (roms : List (Nat × (Nat × List CK))) (b0 : World) (ρ : Rho) : Prop := GlobOk ρ.z.F b0 ∧ ∀ r esz ks, lk roms r = some (esz, ks) →
  ks.length = esz ∧ ρ.z.re r = esz ∧ Typed ks (ρ.z.rl r) ∧ (0 < (ρ.z.rl r).length → ρ.z.ra r = some ⟨ρ.z.rb r, ρ.z.ro r, none⟩ ∧ ρ.z.rb r < b0.heap.size) ∧ (ρ.z.rl r).length ≤ ρ.z.rc r ∧
  ∀ (i c : Nat) (e : List Value) (v : Value), (ρ.z.rl r)[i]? = some e → e[c]? = some v → b0.cell? ⟨ρ.z.rb r, ρ.z.ro r + i * esz + c, none⟩ = some v
abbrev RomOk (o : Orc) (b0 : World) (ρ : Rho) : Prop := RomsOk o.rom b0 ρ
theorem RomsOk.typed {roms : List (Nat × (Nat × List CK))} {b0 : World} {ρ : Rho} (h : RomsOk roms b0 ρ) : ∀ r esz ks, lk roms r = some (esz, ks) → Typed ks (ρ.z.rl r) := fun r esz ks hr => (h.2 r esz ks hr).2.2.1
theorem grown_cell {b w : World} (g : b.grownBy w none) {a : Addr} {v : Value} (h : b.cell? a = some v) (hb : a.block < b.heap.size) : w.cell? a = some v := by
  unfold World.cell? at h ⊢
  rw [g.block a.block hb (by simp)]; exact h
theorem globok_grown {F : Fns} {b w : World} (h : GlobOk F b) (g : b.grownBy w none) : GlobOk F w := fun n cs i v hl hv => by
  obtain ⟨h1, h2⟩ := h n cs i v hl hv
  exact ⟨grown_cell g h1 h2, Nat.lt_of_lt_of_le h2 g.size⟩
theorem glob_nil {F : Fns} {w : World} (h : F.g = []) : GlobOk F w := fun n cs i v hl _ => by rw [h, lk_nil] at hl; cases hl
theorem rom_cell {roms : List (Nat × (Nat × List CK))} (hrom : RomsOk roms b0 ρ) (g : b0.grownBy w none) {r esz : Nat} {ks : List CK} (hr : lk roms r = some (esz, ks)) {i c : Nat} {e : List Value} {v : Value} (he : (ρ.z.rl r)[i]? = some e) (hv : e[c]? = some v) :
    w.cell? ⟨ρ.z.rb r, ρ.z.ro r + i * esz + c, none⟩ = some v := by
  obtain ⟨_, _, _, r2, _, r3⟩ := hrom.2 r esz ks hr
  have hlt := (List.getElem?_eq_some_iff.1 he).1
  exact grown_cell g (r3 i c e v he hv) (r2 (by omega)).2
theorem rowl_cell (H : HeapR ρ b0 h w) {n : Nat} {l : LE} {tot : IE} {ks : List CK} {t : TypeId} {cn sz : Nat} (hl : lk h n = some (.rowl l tot ks t cn sz)) {i c : Nat} {e : List Value} {v : Value} (he : (l.den ρ)[i]? = some e) (hv : e[c]? = some v) :
    w.cell? ⟨ρ.a n, i * sz + c, none⟩ = some v := by
  obtain ⟨obj, ho, rest, lo, hi, rfl, _, _, _, _, hks, ht, _⟩ := H.at_ n _ hl
  have hc : c < ks.length := by
    rw [← conf_length (ht e (List.mem_of_getElem? he))]
    exact (List.getElem?_eq_some_iff.1 hv).1
  have hg := flat_get ht he hc
  rw [hks, hv] at hg
  have hlt := (List.getElem?_eq_some_iff.1 hg).1
  simp only [World.cell?, ho]
  rw [Array.getElem?_append_left (by simpa using hlt)]
  simpa using hg
theorem needO_ok (hρ : ρ.Ok) (hp : Holds ρ pc) {c : BE} {k : OR} {m : Nat} (hk : c.den ρ = true → ORok P ρ b0 h nx w S k) : ORok P ρ b0 h nx w S (needO pc c k m) := by
  unfold needO
  split
  · rename_i hd; exact hk (dec_den hρ hp _ _ hd)
  · trivial
  · trivial
theorem splitO_ok (hρ : ρ.Ok) (hp : Holds ρ pc) {c : BE} {k k' : OR} (hk : c.den ρ = true → ORok P ρ b0 h nx w S k) (hk' : c.den ρ = false → ORok P ρ b0 h nx w S k') : ORok P ρ b0 h nx w S (splitO pc c k k') := by
  unfold splitO
  split
  · rename_i hd; exact hk (dec_den hρ hp _ _ hd)
  · rename_i hd; exact hk' (dec_den hρ hp _ _ hd)
  · trivial
theorem le_t {x y : IE} (h : (mkLe x y).den ρ = true) : x.den ρ ≤ y.den ρ := by rw [mkLe_den] at h; exact of_decide_eq_true h
theorem le_f {x y : IE} (h : (mkLe x y).den ρ = false) : y.den ρ < x.den ρ := by
  rw [mkLe_den] at h
  have := of_decide_eq_false h
  omega
theorem nle_t {x y : IE} (h : (mkNot (mkLe x y)).den ρ = true) : y.den ρ < x.den ρ := by
  rw [mkNot_den, mkLe_den] at h
  simp at h; exact h
theorem eq_t {x y : IE} (h : (mkEq x y).den ρ = true) : x.den ρ = y.den ρ := by rw [mkEq_den] at h; exact of_decide_eq_true h
theorem eq_f {x y : IE} (h : (mkEq x y).den ρ = false) : x.den ρ ≠ y.den ρ := by rw [mkEq_den] at h; exact of_decide_eq_false h
theorem lit_den (n : Int) : (IE.lit n).den ρ = n := by simp only [IE.den]
/-- A thing among an element's cells. -/
theorem pick_run (hT : T.Ok P) {t : TypeId} {ti : TI} (hti : T.ty.get t = some ti) {b o : Nat} {cs : List SV} {e : List Value} (he : SV.denL ρ cs = e) (hc : ∀ j v, e[j]? = some v → w.cell? ⟨b, o + j, none⟩ = some v) (hnm : SV.namesL cs = []) {c : Nat} (k : SV → Prop)
    (hk : ∀ v, (loadVar t ⟨b, o + c, none⟩).run P w = .ok (v.den ρ) w → v.names = [] → k v) : ∀ r, pickCs ti c h nx cs = r → (∃ v, r = .val v h nx ∧ k v) ∨ ∃ m, r = .fail m := by
  intro r hr
  have hty := hT.ty t ti hti
  obtain ⟨d, hd, _, hag⟩ := hty.und
  obtain ⟨inf, z, hi, hsz, _, _, _⟩ := hty.info
  have hsub : ∀ l : List SV, (∀ v ∈ l, v ∈ cs) → SV.namesL l = [] := by
    intro l hl
    cases hq : SV.namesL l with
    | nil => rfl
    | cons m q =>
      have : m ∈ SV.namesL l := by rw [hq]; exact List.mem_cons_self ..
      obtain ⟨v, hv, hm⟩ := mem_namesL.1 this
      have : m ∈ SV.namesL cs := mem_namesL.2 ⟨v, hl v hv, hm⟩
      rw [hnm] at this; cases this
  unfold pickCs at hr
  split at hr
  · rename_i ha
    split at hr
    · rename_i hle
      subst hr
      have hle' : c + ti.size ≤ cs.length := Nat.le_of_ble_eq_true hle
      refine .inl ⟨_, rfl, hk _ ?_ (by simp only [SV.names]; exact hsub _ (fun v hv => List.mem_of_mem_drop (List.mem_of_mem_take hv)))⟩
      have := run_loadVar_mid (P := P) w b (o + c) t (SV.denL ρ ((cs.drop c).take ti.size)) d ?_ hd (by rw [← hag]; exact ha) (by rw [hi]; simp [hsz, denL_length]; omega)
      · simpa [SV.den] using this
      · intro j v hj
        rw [denL_take, denL_drop, he, List.getElem?_take] at hj
        split at hj
        · rw [List.getElem?_drop] at hj
          rw [Nat.add_assoc]; exact hc _ _ hj
        · cases hj
    · subst hr; exact .inr ⟨_, rfl⟩
  · rename_i ha
    split at hr
    · rename_i v hv
      subst hr
      rw [nth_eq] at hv
      refine .inl ⟨_, rfl, hk _ ?_ ?_⟩
      · have hr : d.isRow = false := by rw [← hag]; simpa using ha
        have : w.cell? ⟨b, o + c, none⟩ = some (v.den ρ) := hc c _ (by rw [← he, denL_get, hv]; rfl)
        simp [loadVar, run_isAgg hd, hr, this]
      · have := hsub [v] (fun u hu => by rw [List.mem_singleton] at hu; subst hu; exact List.mem_of_getElem? hv)
        simpa [SV.namesL] using this
    · subst hr; exact .inr ⟨_, rfl⟩
theorem load_ok (hT : T.Ok P) (hρ : ρ.Ok) (hp : Holds ρ pc) (hFg : ρ.z.F = T.orac.F) (hrom : RomOk T.orac b0 ρ) (H : HeapR ρ b0 h w) (hn : HNames nx h) (hsl : SlotsR ρ sl a.tmps) (hs : SNames nx sl) (t : TypeId) (x : Operand) :
    ORok P ρ b0 h nx w (do pure (.value (← Instr.loadAt t (a.eval x)))) (opLoad T pc h nx sl t x) := by
  unfold opLoad
  split
  · rename_i n off hx
    cases hl : loadAt T h nx t n off with
    | val v h' nx' =>
      obtain ⟨h1, rfl, rfl, o, hlk, hsub⟩ := load_run hT H t n off v h' nx' hl
      refine okSame H hn v ?_ (fun m hm => (hn n _ hlk).2 m (hsub m hm))
      simp [Instr.loadAt, Instr.sureAddr, ev_den hsl, hx, SV.den, h1]
    | enter f args => simp [loadAt] at hl; (repeat' split at hl) <;> cases hl
    | round f args => simp [loadAt] at hl; (repeat' split at hl) <;> cases hl
    | split c => trivial
    | fail n => trivial
  · rename_i r i c hx
    unfold loadRom
    split
    · rename_i ti esz ks hti hr
      refine needO_ok hρ hp (fun h0 => needO_ok hρ hp (fun h1 => ?_))
      have h0' := le_t h0
      have h1' := nle_t h1
      simp only [IE.den, lenV] at h0' h1'
      obtain ⟨r1, r2, r3, _⟩ := hrom.2 r esz ks hr
      have hlt : (i.den ρ).toNat < (ρ.z.rl r).length := by simp only [LE.den] at h1'; omega
      have he := List.getElem?_eq_getElem hlt
      have hcf := r3 _ (List.mem_of_getElem? he)
      have hden : SV.denL ρ (atomsAt (.rom r) i ks 0) = (ρ.z.rl r)[(i.den ρ).toNat] := by
        have := atomsAt_den (ρ := ρ) (.rom r) i ks 0 _ (by simpa using hcf) (by simp only [LE.den, List.getD, he, Option.getD_some])
        simpa using this
      rcases pick_run (P := P) (w := w) (h := h) (nx := nx) hT hti (b := ρ.z.rb r) (o := ρ.z.ro r + (i.den ρ).toNat * esz) hden (fun j v hj => rom_cell hrom H.g0 hr he hj) (atomsAt_names _ _ _ _) (c := c)
        (fun v => ORok P ρ b0 h nx w (do pure (.value (← Instr.loadAt t (a.eval x)))) (.val v h nx)) (fun v h1 h2 => okSame H hn v (by simp [Instr.loadAt, Instr.sureAddr, ev_den hsl, hx, SV.den, r2, h1]) (fun m hm => by rw [h2] at hm; cases hm)) _ rfl with ⟨v, e, q⟩ | ⟨m, e⟩
      · rw [e]; exact q
      · rw [e]; first | done | trivial
    · trivial
  · rename_i n z i c hx
    unfold loadL
    split
    · rename_i ti l tot ks u cn zs hti hlk
      split
      · rename_i hz
        have hz' : zs = z := by simpa using hz
        subst hz'
        refine needO_ok hρ hp (fun h0 => needO_ok hρ hp (fun h1 => ?_))
        have h0' := le_t h0
        have h1' := nle_t h1
        obtain ⟨obj, ho, rest, lo, hi, rfl, _, _, _, _, hks, ht, htot⟩ := H.at_ n _ hlk
        rw [lit_den] at h0'
        rw [htot] at h1'
        have hlt : (i.den ρ).toNat < (l.den ρ).length := by omega
        have he := List.getElem?_eq_getElem hlt
        have hcf := ht _ (List.mem_of_getElem? he)
        split
        · rename_i cs hel
          have hden := elemAt_den hρ hp l i cs _ hel h0' he hcf
          rcases pick_run (P := P) (w := w) (h := h) (nx := nx) hT hti (b := ρ.a n) (o := (i.den ρ).toNat * zs) (cs := cs) hden (fun j v hj => rowl_cell H hlk he hj) (elemAt_names _ _ _ hel) (c := c)
            (fun v => ORok P ρ b0 h nx w (do pure (.value (← Instr.loadAt t (a.eval x)))) (.val v h nx)) (fun v h1 h2 => okSame H hn v (by simp [Instr.loadAt, Instr.sureAddr, ev_den hsl, hx, SV.den, h1]) (fun m hm => by rw [h2] at hm; cases hm)) _ rfl with ⟨v, e, q⟩ | ⟨m, e⟩
          · rw [e]; exact q
          · rw [e]; first | done | trivial
        · trivial
        · trivial
      · trivial
    · trivial
  · rename_i g off hx
    unfold loadG
    split
    · rename_i ti cs hti hlk
      have hden : SV.denL ρ (cs.map ofScalar) = cs := by
        rw [denL_eq, List.map_map]
        conv => rhs; rw [← List.map_id cs]
        exact List.map_congr_left fun v _ => ofScalar_den ρ v
      have hnm : SV.namesL (cs.map ofScalar) = [] := by
        rw [namesL_eq, List.flatMap_map]
        simp [ofScalar_names]
      rcases pick_run (P := P) (w := w) (h := h) (nx := nx) hT hti (b := g) (o := 0) hden (fun j v hj => by
          obtain ⟨c1, c2⟩ := hrom.1 g cs j v (by rw [hFg]; exact hlk) hj
          rw [Nat.zero_add]
          exact grown_cell H.g0 c1 c2) hnm (c := off)
        (fun v => ORok P ρ b0 h nx w (do pure (.value (← Instr.loadAt t (a.eval x)))) (.val v h nx)) (fun v h1 h2 => okSame H hn v (by simp [Instr.loadAt, Instr.sureAddr, ev_den hsl, hx, SV.den, Nat.zero_add] at h1 ⊢; simp [h1]) (fun m hm => by rw [h2] at hm; cases hm)) _ rfl with ⟨v, e, q⟩ | ⟨m, e⟩
      · rw [e]; exact q
      · rw [e]; first | done | trivial
    · trivial
  · trivial
/-- Cells that are written, of a row of which nothing is frozen. -/
theorem storeCells_run (g o : Nat) (t : TypeId) (fz : Nat × Nat) : ∀ (vs : List Value) (i : Nat) (cur : Array Value) (w : World), w.heap[g]? = some (.cells cur t fz) → (fz.2 ≤ fz.1 ∨ cur.size ≤ fz.1) → o + i + vs.length ≤ cur.size → (∀ v ∈ vs, v.oneCell' = true) →
    (storeCells ⟨g, o, none⟩ vs i).run P w = .ok () (w.setRow g (cur.toList.take (o + i) ++ vs ++ cur.toList.drop (o + i + vs.length)).toArray)
  | [], i, cur, w, hg, _, _, _ => by
    simp only [storeCells, List.append_nil, List.length_nil, Nat.add_zero, List.take_append_drop, Array.toArray_toList]
    rw [setRow_self w g cur t fz hg]
    rfl
  | v :: rest, i, cur, w, hg, hfz, hl, h1 => by
    have hi : o + i < cur.size := by simp at hl; omega
    have hadd : (⟨g, o, none⟩ : Addr).add i = ⟨g, o + i, none⟩ := by unfold Addr.add; split <;> simp_all
    have hcell : w.cell? ⟨g, o + i, none⟩ = some cur[o + i] := by simp [World.cell?, hg, hi]
    have hfro : w.frozen? ⟨g, o + i, none⟩ = false := by
      obtain ⟨lo, hi'⟩ := fz
      simp only [World.frozen?, hg, Bool.and_eq_false_iff, decide_eq_false_iff_not]
      simp only at hfz
      omega
    have hst : (store ((⟨g, o, none⟩ : Addr).add i) v).run P w = .ok () (w.setRow g (cur.setIfInBounds (o + i) v)) := by
      rw [hadd, run_store P w _ v _ (h1 v (by simp)), hcell]
      simp [hfro, setCell_eq_setRow w g (o + i) cur t fz v hg]
    have ih := storeCells_run g o t fz rest (i + 1) (cur.setIfInBounds (o + i) v) (w.setRow g (cur.setIfInBounds (o + i) v)) (setRow_heap w g cur _ t _ hg) (by simpa using hfz) (by simp at hl ⊢; omega) (fun x hx => h1 x (by simp [hx]))
    simp only [storeCells, Sem.run_bind, hst, Result.andThen_ok, ih, setRow_setRow]
    congr 3
    have e := list_seg_step cur.toList (o + i) v rest (by simp at hl ⊢; omega)
    simpa [Array.toList_setIfInBounds, Nat.add_assoc] using e
/-- Some of a thing's cells are written. -/
theorem write_ok (H : HeapR ρ b0 h w) (hn : HNames nx h) {n off : Nat} {o : SObj} {cs vs : List SV} (hlk : lk h n = some o) (hcs : o.cs = some cs) (hle : off + vs.length ≤ cs.length) (h1 : allOne vs = true) (hvn : ∀ m ∈ SV.namesL vs, m < nx) :
    ∃ w', (storeCells ⟨ρ.a n, off, none⟩ (SV.denL ρ vs)).run P w = .ok () w' ∧ Move ρ ρ b0 h (up h n (o.put (puts cs off vs))) nx nx w w' := by
  obtain ⟨obj, ho, hR⟩ := H.at_ n _ hlk
  obtain ⟨rest, t, lo, hi, rfl, hfz, hput, hsub, hpn⟩ := obj_cells hR hcs
  have hst := storeCells_run (P := P) (ρ.a n) off t (lo, hi) (SV.denL ρ vs) 0 _ w ho (by simpa [denL_length] using hfz) (by simp [denL_length]; omega) (allOne_den ρ vs h1)
  simp only [Nat.add_zero] at hst
  have hpl : (puts cs off vs).length = cs.length := by rw [puts_eq vs cs off hle]; simp; omega
  have hw : w.setRow (ρ.a n) (((SV.denL ρ cs).toArray ++ rest).toList.take off ++ SV.denL ρ vs ++ ((SV.denL ρ cs).toArray ++ rest).toList.drop (off + (SV.denL ρ vs).length)).toArray = World.putO w (ρ.a n) (.cells ((SV.denL ρ (puts cs off vs)).toArray ++ rest) t (lo, hi)) := by
    have hlt := H.lt hlk
    have hv : w.heap[ρ.a n] = .cells ((SV.denL ρ cs).toArray ++ rest) t (lo, hi) := (Array.getElem?_eq_some_iff.1 ho).2
    have he : (((SV.denL ρ cs).toArray ++ rest).toList.take off ++ SV.denL ρ vs ++ ((SV.denL ρ cs).toArray ++ rest).toList.drop (off + (SV.denL ρ vs).length)).toArray = (SV.denL ρ (puts cs off vs)).toArray ++ rest := by
      apply Array.ext'
      rw [puts_eq vs cs off hle, denL_append, denL_append, denL_take, denL_drop, denL_length]
      simp only [Array.toList_append, List.append_assoc]
      rw [List.take_append_of_le_length (by simp [denL_length]; omega), List.drop_append_of_le_length (by simp [denL_length]; omega)]
    rw [he]
    unfold World.setRow World.putO
    congr 1
    apply Array.ext_getElem?
    intro k
    rw [Array.getElem?_modify, Array.getElem?_setIfInBounds]
    by_cases hk : ρ.a n = k
    · subst hk
      simp [hlt, hv]
    · simp [hk]
  refine ⟨_, hst, ?_⟩
  rw [hw]
  refine Move.upd H hn hlk (o.put (puts cs off vs)) _ (hput _ hpl) ?_
  intro m hm
  rcases hpn _ m hm with hm | hm
  · rw [puts_eq vs cs off hle] at hm
    obtain ⟨v, hv, hm2⟩ := mem_namesL.1 hm
    rcases List.mem_append.1 hv with hv | hv
    · rcases List.mem_append.1 hv with hv | hv
      · exact (hn n _ hlk).2 m (hsub m (mem_namesL.2 ⟨v, List.mem_of_mem_take hv, hm2⟩))
      · exact hvn m (mem_namesL.2 ⟨v, hv, hm2⟩)
    · exact (hn n _ hlk).2 m (hsub m (mem_namesL.2 ⟨v, List.mem_of_mem_drop hv, hm2⟩))
  · exact (hn n _ hlk).2 m hm
/-- A row of a length that is a letter, some of whose cells are written. -/
theorem rowl_write (H : HeapR ρ b0 h w) (hn : HNames nx h) {n off : Nat} {l : LE} {tot : IE} {ks : List CK} {t : TypeId} {cn sz : Nat} (hlk : lk h n = some (.rowl l tot ks t cn sz)) {vs : List Value} (hle : off + vs.length ≤ (l.den ρ).flatten.length) (h1 : ∀ v ∈ vs, v.oneCell' = true)
    {l' : LE} (hf : (l'.den ρ).flatten = (l.den ρ).flatten.take off ++ vs ++ (l.den ρ).flatten.drop (off + vs.length)) (ht : Typed ks (l'.den ρ)) (hl : (l'.den ρ).length = (l.den ρ).length) :
    ∃ w', (storeCells ⟨ρ.a n, off, none⟩ vs).run P w = .ok () w' ∧ Move ρ ρ b0 h (up h n (.rowl l' tot ks t cn sz)) nx nx w w' := by
  obtain ⟨obj, ho, rest, lo, hi, rfl, hfz, hcap, hmx, hpos, hks, ht0, htot⟩ := H.at_ n _ hlk
  have hst := storeCells_run (P := P) (ρ.a n) off t (lo, hi) vs 0 _ w ho (by rw [Array.size_append, List.size_toArray]; exact hfz) (by rw [Array.size_append, List.size_toArray]; omega) h1
  simp only [Nat.add_zero] at hst
  have hll : (l'.den ρ).flatten.length = (l.den ρ).flatten.length := by rw [hf, List.length_append, List.length_append, List.length_take, List.length_drop]; omega
  have hw : w.setRow (ρ.a n) (((l.den ρ).flatten.toArray ++ rest).toList.take off ++ vs ++ ((l.den ρ).flatten.toArray ++ rest).toList.drop (off + vs.length)).toArray = World.putO w (ρ.a n) (.cells ((l'.den ρ).flatten.toArray ++ rest) t (lo, hi)) := by
    have hlt := H.lt hlk
    have hv : w.heap[ρ.a n] = .cells ((l.den ρ).flatten.toArray ++ rest) t (lo, hi) := (Array.getElem?_eq_some_iff.1 ho).2
    have he : (((l.den ρ).flatten.toArray ++ rest).toList.take off ++ vs ++ ((l.den ρ).flatten.toArray ++ rest).toList.drop (off + vs.length)).toArray = (l'.den ρ).flatten.toArray ++ rest := by
      apply Array.ext'
      rw [hf]
      simp only [Array.toList_append, List.append_assoc]
      rw [List.take_append_of_le_length (by omega), List.drop_append_of_le_length (by omega)]
    rw [he]
    unfold World.setRow World.putO
    congr 1
    apply Array.ext_getElem?
    intro k
    rw [Array.getElem?_modify, Array.getElem?_setIfInBounds]
    by_cases hk : ρ.a n = k
    · subst hk
      simp [hlt, hv]
    · simp [hk]
  refine ⟨_, hst, ?_⟩
  rw [hw]
  refine Move.upd H hn hlk (.rowl l' tot ks t cn sz) _ ⟨rest, lo, hi, rfl, by rw [hll]; exact hfz, by rw [hll]; exact hcap, hmx, hpos, hks, ht, by rw [hl]; exact htot⟩ ?_
  intro m hm
  exact (hn n _ hlk).2 m (by simpa [SObj.names] using hm)
theorem store_ok (hT : T.Ok P) (hρ : ρ.Ok) (hp : Holds ρ pc) (hrom : RomOk T.orac b0 ρ) (H : HeapR ρ b0 h w) (hn : HNames nx h) (hsl : SlotsR ρ sl a.tmps) (hs : SNames nx sl) (t : TypeId) (x y : Operand) :
    ORok P ρ b0 h nx w (do Instr.storeAt t (a.eval x) (a.eval y); pure .skip) (opStore T pc h nx sl t x y) := by
  unfold opStore
  split
  · rename_i n off hx
    unfold storeAt
    split
    · rename_i ti o vs hti hlk hvs
      split
      · rename_i cs hcs
        split
        · rename_i h1
          split
          · rename_i h2
            split
            · rename_i h3
              have h1' : vs.length = ti.size := by simpa using h1
              have h2' : off + vs.length ≤ cs.length := Nat.le_of_ble_eq_true h2
              obtain ⟨c1, c2⟩ := cells_den ρ _ _ hvs
              obtain ⟨i, z, hi, hsz, _, _, _⟩ := (hT.ty t ti hti).info
              obtain ⟨w', hst, hmv⟩ := write_ok (P := P) H hn hlk hcs h2' h3 (fun m hm => ev_names hs y m (c2 ▸ hm))
              refine ⟨ρ, w', _, ?_, .inr ⟨rfl, rfl⟩, hmv, fun m hm => by simp [SV.names, SV.namesL] at hm⟩
              simp [Instr.storeAt, Instr.sureAddr, ev_den hsl, hx, SV.den, storeVar, c1, denL_length, h1', run_sizeOf' hi, hsz, hst]
            · trivial
          · trivial
        · trivial
      · trivial
    · trivial
  · rename_i n z i c hx
    unfold storeL
    split
    · rename_i ti l tot ks u cn zs vs hti hlk hvs
      obtain ⟨c1, c2⟩ := cells_den ρ _ _ hvs
      obtain ⟨inf, zv, hi, hsz, _, _, _⟩ := (hT.ty t ti hti).info
      split
      · rename_i hz
        have hz' : zs = z := by simpa using hz
        subst hz'
        split
        · rename_i h1
          have h1' : vs.length = ti.size := by simpa using h1
          refine needO_ok hρ hp (fun h0 => needO_ok hρ hp (fun h2 => ?_))
          have h0' := le_t h0
          have h2' := nle_t h2
          obtain ⟨obj, ho, rest, lo, hi', rfl, _, _, _, hpos, hks, ht, htot⟩ := H.at_ n _ hlk
          rw [lit_den] at h0'
          rw [htot] at h2'
          have hlt : (i.den ρ).toNat < (l.den ρ).length := by omega
          have he := List.getElem?_eq_getElem hlt
          have hcf := ht _ (List.mem_of_getElem? he)
          -- an element that is put
          have key : ∀ (cs : List SV) (d : List Value), SV.denL ρ cs = d → (∀ (al : AL), toAL T.orac.rom pc ks cs = some al → conf ks d = true → ((l.den ρ).set (i.den ρ).toNat d).flatten = (l.den ρ).flatten.take ((i.den ρ).toNat * zs + c) ++ SV.denL ρ vs ++ (l.den ρ).flatten.drop ((i.den ρ).toNat * zs + c + (SV.denL ρ vs).length)) →
              (∀ v ∈ SV.denL ρ vs, conf ks d = true → v ∈ d) → (conf ks d = true → c + vs.length ≤ zs) → ORok P ρ b0 h nx w (do Instr.storeAt t (a.eval x) (a.eval y); pure .skip) (storeEl T pc h nx n l tot ks u cn zs i cs) := by
            intro cs d hd hfl hmem hcl
            unfold storeEl
            split
            · rename_i al hal
              obtain ⟨q1, q2⟩ := toAL_ok hρ hp hrom.typed _ _ _ hal
              rw [hd] at q1 q2
              have hset : (setE l i al).den ρ = (l.den ρ).set (i.den ρ).toNat d := by rw [setE_den, q1]
              have hfl' := hfl al hal q2
              have hfll : (l.den ρ).flatten.length = (l.den ρ).length * zs := by rw [flat_len ht, hks]
              have hrow : ((i.den ρ).toNat + 1) * zs ≤ (l.den ρ).length * zs := Nat.mul_le_mul_right _ hlt
              have := hcl q2
              obtain ⟨w', hst, hmv⟩ := rowl_write (P := P) (off := (i.den ρ).toNat * zs + c) (vs := SV.denL ρ vs) H hn hlk (by rw [hfll, denL_length]; have h3 := hrow; rw [Nat.add_mul, Nat.one_mul] at h3; exact Nat.le_trans (by omega) h3) (fun v hv => conf_one q2 v (hmem v hv q2)) (l' := setE l i al) (by rw [hset]; exact hfl') (by rw [hset]; exact ht.set _ q2) (by rw [hset]; simp)
              refine ⟨ρ, w', _, ?_, .inr ⟨rfl, rfl⟩, hmv, fun m hm => by simp [SV.names, SV.namesL] at hm⟩
              simp [Instr.storeAt, Instr.sureAddr, ev_den hsl, hx, SV.den, storeVar, c1, denL_length, h1', run_sizeOf' hi, hsz, hst]
            · trivial
          have hc0 : ∀ d : List Value, conf ks d = true → d.length = zs := fun d hd => by rw [conf_length hd, hks]
          have part : ORok P ρ b0 h nx w (do Instr.storeAt t (a.eval x) (a.eval y); pure .skip) (storePart T pc h nx n l tot ks u cn zs i c vs) := by
            unfold storePart
            split
            · rename_i cs hel
              have hden := elemAt_den hρ hp l i cs _ hel h0' he hcf
              split
              · rename_i hle
                have hle' := Nat.le_of_ble_eq_true hle
                have hcs := elemAt_length hden hcf
                have hpd : SV.denL ρ (puts cs c vs) = ((l.den ρ)[(i.den ρ).toNat]).take c ++ SV.denL ρ vs ++ ((l.den ρ)[(i.den ρ).toNat]).drop (c + vs.length) := by
                  rw [puts_eq vs cs c hle', denL_append, denL_append, denL_take, denL_drop, hden]
                refine key (puts cs c vs) _ hpd ?_ (fun v hv _ => by simp [hv]) (fun _ => by rw [hcs, hks] at hle'; exact hle')
                intro al _ hcd
                rw [flat_set ht hlt hcd, hks, conf_length hcd, hks]
                have hg : (l.den ρ).flatten = (l.den ρ).flatten.take ((i.den ρ).toNat * zs) ++ (l.den ρ)[(i.den ρ).toNat] ++ (l.den ρ).flatten.drop ((i.den ρ).toNat * zs + zs) := by
                  have := flat_set ht hlt hcf
                  rw [hks, hc0 _ hcf] at this
                  rw [← this]; simp
                have hel2 := hc0 _ hcf
                have hrow : ((i.den ρ).toNat + 1) * zs ≤ (l.den ρ).length * zs := Nat.mul_le_mul_right _ hlt
                have hfl : (l.den ρ).flatten.length = (l.den ρ).length * zs := by rw [flat_len ht, hks]
                have hol : (i.den ρ).toNat * zs + zs ≤ (l.den ρ).flatten.length := by rw [hfl]; rw [Nat.add_mul, Nat.one_mul] at hrow; exact hrow
                clear hrow hfl
                generalize (l.den ρ)[(i.den ρ).toNat] = E at *
                generalize (l.den ρ).flatten = Fl at *
                generalize (i.den ρ).toNat * zs = o at *
                have t1 : (Fl.take o).length = o := by simp; omega
                rw [hcs, hks] at hle'
                rw [denL_length]
                have e1 : Fl.take (o + c) = Fl.take o ++ E.take c := by
                  conv => lhs; rw [hg]
                  rw [List.append_assoc, List.take_append, t1, List.take_of_length_le (by omega), show o + c - o = c by omega, List.take_append_of_le_length (by omega)]
                have e2 : Fl.drop (o + c + vs.length) = E.drop (c + vs.length) ++ Fl.drop (o + zs) := by
                  conv => lhs; rw [hg]
                  rw [List.append_assoc, List.drop_append, t1, List.drop_eq_nil_of_le (by omega), List.nil_append, show o + c + vs.length - o = c + vs.length by omega, List.drop_append_of_le_length (by omega)]
                rw [e1, e2]
                simp only [List.append_assoc]
              · trivial
            · trivial
            · trivial
          split
          · rename_i hfull
            have hfull' : vs.length + c = zs := by simpa using hfull
            split
            · rename_i hc
              have hc' : c = 0 := by simpa using hc
              subst hc'
              refine key vs _ rfl ?_ (fun v hv _ => hv) (fun _ => by omega)
              intro al _ hcd
              rw [flat_set ht hlt hcd, hks]; rfl
            · exact part
          · exact part
        · trivial
      · trivial
    · trivial
  · trivial
theorem nil_ok (H : HeapR ρ b0 h w) (hn : HNames nx h) (hsl : SlotsR ρ sl a.tmps) (hs : SNames nx sl) (dst : Option Tmp) (ty : TypeId) (pos : String) (af : Array Edge) (gd : Option (Nat × Bool)) (x : Operand) :
    ORok P ρ b0 h nx w (execOp a.eval ⟨dst, .nilCheck x, ty, pos, af, gd⟩) (opNil h nx sl x) := by
  have hx := ev_names hs x
  unfold opNil
  split
  · rename_i n off he
    rw [he] at hx
    exact okSame H hn _ (by simp [execOp, ev_den hsl, he, SV.den]) hx
  · rename_i r i c he
    rw [he] at hx
    exact okSame H hn _ (by simp [execOp, ev_den hsl, he, SV.den]) hx
  · rename_i n z i c he
    rw [he] at hx
    exact okSame H hn _ (by simp [execOp, ev_den hsl, he, SV.den]) hx
  · rename_i f p q he
    rw [he] at hx
    exact okSame H hn _ (by simp [execOp, ev_den hsl, he, SV.den, fnDen]) hx
  · trivial
theorem extract_ok (H : HeapR ρ b0 h w) (hn : HNames nx h) (hsl : SlotsR ρ sl a.tmps) (hs : SNames nx sl) (x : Operand) (i : Nat) :
    ORok P ρ b0 h nx w (do pure (.value (← Instr.extract (a.eval x) i))) (opExtract h nx sl x i) := by
  have hx := ev_names hs x
  unfold opExtract
  split
  · rename_i vs he
    rw [he] at hx
    split
    · rename_i v hv
      rw [nth_eq] at hv
      refine okSame H hn _ ?_ (fun m hm => hx m (by simp only [SV.names]; exact mem_namesL.2 ⟨v, List.mem_of_getElem? hv, hm⟩))
      simp [ev_den hsl, he, SV.den, Instr.extract, denL_get, hv]
    · trivial
  · trivial
theorem func_ok (H : HeapR ρ b0 h w) (hn : HNames nx h) (hsl : SlotsR ρ sl a.tmps) (hs : SNames nx sl) (fn : Fn) (f c : Array Operand) :
    ORok P ρ b0 h nx w (do pure (.value (← Instr.makeFunc fn (f.map a.eval) (c.map a.eval)))) (opFunc h nx sl fn f c) := by
  unfold opFunc
  have e : ∀ l : Array Operand, (SV.denL ρ (l.toList.map (ev sl))).toArray = l.map a.eval := by
    intro l
    rw [denL_eq, List.map_map]
    apply Array.ext'
    simp
    exact fun x _ => (ev_den hsl x).symm
  have hN : ∀ l : Array Operand, ∀ m ∈ SV.namesL (l.toList.map (ev sl)), m < nx := by
    intro l m hm
    obtain ⟨v, hv, h2⟩ := mem_namesL.1 hm
    obtain ⟨x, _, rfl⟩ := List.mem_map.1 hv
    exact ev_names hs x m h2
  split
  · trivial
  · rename_i hy
    refine okSame H hn _ ?_ ?_
    · have : fnDen ρ fn = fn := by cases fn <;> first | rfl | (exact absurd rfl (hy _))
      simp [SV.den, this, e, Instr.makeFunc]
    · intro m hm
      cases fn <;> simp only [SV.names, List.mem_append] at hm <;> first
        | (exact absurd rfl (hy _))
        | (rcases hm with hm | hm <;> exact hN _ m hm)
end
end
end Go.Proofs.Ytjgkaimgocnkmab.Sx
