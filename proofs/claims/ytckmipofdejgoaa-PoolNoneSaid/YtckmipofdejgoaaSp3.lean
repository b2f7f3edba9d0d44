/- A reckoner of Go's small steps over letters: each operation does as it is reckoned. No condition. -/
import Derived.Test.YtckmipofdejgoaaSp2
set_option linter.unusedVariables false
set_option linter.unusedSimpArgs false
namespace Go.Proofs.Ytckmipofdejgoaa.Sx
open Go

def StOk : ST → TypeDesc → Prop
  | .int k, d => d = .int k
  | .bool, d => d = .bool
  | .slice e, d => d = .slice e
  | .arr n e, d => d = .array n e
  | .str, d => d = .string
  | .ptr, d => ∃ e, d = .pointer e
  | .func, d => ∃ a b c, d = .func a b c
  | .iface, d => ∃ ms, d = .interface ms
  | .map k e, d => d = .map k e
  | .struct fs, d => ∃ F, d = .struct F ∧ F.toList.map (fun f => (f.offset, f.type)) = fs
  | .other, _ => True
/-- Two values of such cells are equal as their cells are. -/
def EqOk (P : Program) (t : TypeId) (ks : List CK) : Prop :=
  ∀ (ρ : Rho) (xs ys : List SV) (c : BE) (w : World) (x y : Operand), eqCells ks xs ys = some c →
    ((do eqGuard .eql t x y (.agg (SV.denL ρ xs).toArray) (.agg (SV.denL ρ ys).toArray); binOp .eql t (.agg (SV.denL ρ xs).toArray) (.agg (SV.denL ρ ys).toArray)) : Sem Value).run P w = .ok (.bool (c.den ρ)) w ∧
    ((do eqGuard .neq t x y (.agg (SV.denL ρ xs).toArray) (.agg (SV.denL ρ ys).toArray); binOp .neq t (.agg (SV.denL ρ xs).toArray) (.agg (SV.denL ρ ys).toArray)) : Sem Value).run P w = .ok (.bool (!c.den ρ)) w
structure TyOk (P : Program) (t : TypeId) (ti : TI) : Prop where
  info : ∃ i z, P.info? t = some i ∧ i.size = ti.size ∧ i.zero = some z ∧ (∀ ρ, z.cells = (SV.denL ρ ti.zero).toArray) ∧ i.bytes = ti.bytes
  zn : SV.namesL ti.zero = []
  zl : ti.zero.length = ti.size
  za : ∀ i z, P.info? t = some i → i.zero = some z → (ti.agg = true → ∃ cs, z = .agg cs) ∧ (ti.agg = false → ∀ cs, z ≠ .agg cs)
  und : ∃ d, P.underlying t = some d ∧ StOk ti.und d ∧ ti.agg = d.isRow
structure Tab.Ok (P : Program) (T : Tab) : Prop where
  ty : ∀ t ti, T.ty.get t = some ti → TyOk P t ti
  fn : ∀ f fn, T.fn.get f = some fn → P.funcs[f]? = some fn ∧ (fn.name == "runtime.NumGoroutine") = false
  code : ∀ f fn c, T.fn.get f = some fn → fn.body = some c → codeOk c = true
  eqs : ∀ t ks, lk T.eqs t = some ks → EqOk P t ks
  mixed : P.follows .mixedOrders = true

section
variable {P : Program} {T : Tab}
theorem run_zeroOf {t : TypeId} {i : TypeInfo} {z : Value} (hi : P.info? t = some i) (hz : i.zero = some z) (w : World) : (zeroValue t).run P w = .ok z w := by
  simp [zeroValue, typeInfo, hi, hz]
theorem run_sizeOf' {t : TypeId} {i : TypeInfo} (hi : P.info? t = some i) (w : World) : (sizeOf t).run P w = .ok i.size w := by
  simp [sizeOf, typeInfo, hi]
theorem run_isAgg {t : TypeId} {d : TypeDesc} (h : P.underlying t = some d) (w : World) : (isAgg t).run P w = .ok d.isRow w := by
  unfold isAgg
  rw [Sem.run_bind, run_underlying h w]
  cases d <;> simp
theorem cells_one (ρ : Rho) (v : SV) (h1 : ∀ l, v ≠ .agg l) (h2 : ∀ n, v ≠ .opq n) (h3 : ∀ l, v ≠ .const (.agg l)) (h4 : ∀ n x, v ≠ .app n x) : (v.den ρ).cells = #[v.den ρ] := by
  cases v <;> first
    | (exact absurd rfl (h1 _))
    | (exact absurd rfl (h2 _))
    | (exact absurd rfl (h4 _ _))
    | (simp [SV.den, Value.cells]; done)
    | skip
  rename_i u
  cases u <;> first
    | (exact absurd rfl (h3 _))
    | (simp [SV.den, Value.cells])
theorem cells_den (ρ : Rho) (v : SV) (cs : List SV) (h : v.cells = some cs) : (v.den ρ).cells = (SV.denL ρ cs).toArray ∧ SV.namesL cs = v.names := by
  unfold SV.cells at h
  split at h
  · cases h; exact ⟨by simp [SV.den, Value.cells], rfl⟩
  · cases h
  · cases h
  · cases h
  · rename_i h1 h2 h3 h4
    cases h
    exact ⟨by rw [cells_one ρ v (fun l e => h1 l e) (fun l e => h2 l e) (fun l e => h3 l e) (fun n x e => h4 n x e)]; simp [SV.denL], by simp [SV.namesL]⟩
theorem one_den (ρ : Rho) (v : SV) (h : v.one = true) : (v.den ρ).oneCell' = true := by
  unfold SV.one at h
  split at h <;> first
    | (cases h; done)
    | skip
  rename_i h1 h2 h3 h4 h5 h6
  cases v <;> first
    | (exact absurd rfl (h1 _))
    | (exact absurd rfl (h2 _))
    | (exact absurd rfl (h3 _))
    | (exact absurd rfl (h6 _ _))
    | (simp [SV.den, Value.oneCell']; done)
    | skip
  rename_i u
  cases u <;> first
    | (exact absurd rfl (h4 _))
    | (exact absurd rfl (h5 _))
    | (simp [SV.den, Value.oneCell'])
theorem allOne_den (ρ : Rho) (l : List SV) (h : allOne l = true) : ∀ v ∈ SV.denL ρ l, v.oneCell' = true := by
  induction l with
  | nil => simp [SV.denL]
  | cons v l ih =>
    simp only [allOne] at h
    split at h
    · rename_i hv
      intro u hu
      simp only [SV.denL, List.mem_cons] at hu
      rcases hu with rfl | hu
      · exact one_den ρ v hv
      · exact ih h u hu
    · cases h
theorem denL_length (ρ : Rho) (l : List SV) : (SV.denL ρ l).length = l.length := by simp [denL_eq]
theorem denL_get (ρ : Rho) (l : List SV) (i : Nat) : (SV.denL ρ l)[i]? = (l[i]?).map (SV.den ρ) := by simp [denL_eq]
theorem denL_append (ρ : Rho) (l m : List SV) : SV.denL ρ (l ++ m) = SV.denL ρ l ++ SV.denL ρ m := by simp [denL_eq]
theorem denL_take (ρ : Rho) (l : List SV) (n : Nat) : SV.denL ρ (l.take n) = (SV.denL ρ l).take n := by simp [denL_eq]
theorem denL_drop (ρ : Rho) (l : List SV) (n : Nat) : SV.denL ρ (l.drop n) = (SV.denL ρ l).drop n := by simp [denL_eq]
theorem puts_eq (vs : List SV) : ∀ (cs : List SV) (off : Nat), off + vs.length ≤ cs.length → puts cs off vs = cs.take off ++ vs ++ cs.drop (off + vs.length) := by
  induction vs with
  | nil => intro cs off h; simp [puts]
  | cons v vs ih =>
    intro cs off h
    simp only [List.length_cons] at h
    rw [puts, put_eq, ih _ _ (by simp; omega)]
    simp only [List.length_cons]
    apply List.ext_getElem?
    intro k
    simp only [List.getElem?_append, List.length_append, List.length_take, List.length_set, List.getElem?_take, List.getElem?_drop, List.getElem?_set, List.length_cons]
    rw [Nat.min_eq_left (by omega), Nat.min_eq_left (by omega)]
    by_cases h1 : k < off
    · simp [h1, show k < off + 1 by omega, show k < off + 1 + vs.length by omega, show k < off + (vs.length + 1) by omega, show ¬ off = k by omega]
    · by_cases h2 : k = off
      · subst h2
        simp [show k < k + 1 + vs.length by omega, show k < cs.length by omega]
      · by_cases h3 : k < off + 1 + vs.length
        · obtain ⟨j, rfl⟩ : ∃ j, k = off + 1 + j := ⟨k - (off + 1), by omega⟩
          simp [show off + 1 + j < off + 1 + vs.length by omega, show ¬ off + 1 + j < off + 1 by omega, show ¬ off + 1 + j < off by omega, show off + 1 + j < off + (vs.length + 1) by omega, show off + 1 + j - off = j + 1 by omega]
        · have e1 : off + 1 + vs.length + (k - (off + 1 + vs.length)) = k := by omega
          have e2 : off + (vs.length + 1) + (k - (off + (vs.length + 1))) = k := by omega
          simp [h3, show ¬ k < off + (vs.length + 1) by omega, e1, e2, show ¬ off = k by omega]
theorem namesL_of_mem {l : List SV} {N : Nat} : (∀ m ∈ SV.namesL l, m < N) ↔ ∀ v ∈ l, NamesV N v := NamesL.iff.symm
theorem namesL_sub {l l' : List SV} {N : Nat} (h : ∀ m ∈ SV.namesL l, m < N) (hs : ∀ v ∈ l', v ∈ l) : ∀ m ∈ SV.namesL l', m < N := by
  rw [namesL_of_mem] at *
  exact fun v hv => h v (hs v hv)

/-- What an operation does. -/
def ORok (P : Program) (ρ : Rho) (b0 : World) (h : SHeap) (nx : Nat) (w : World) (S : Sem Next) : OR → Prop
  | .val v h' nx' => ∃ ρ' w' nv, S.run P w = .ok nv w' ∧ (nv = .value (v.den ρ') ∨ (nv = .skip ∧ v = .tup [])) ∧ Move ρ ρ' b0 h h' nx nx' w w' ∧ NamesV nx' v
  | .enter f args => (∀ fn, P.funcs[f]? = some fn → fn.body.isSome = true → (fn.name == "runtime.NumGoroutine") = false → S.run P w = .ok (.enter f (SV.denL ρ args).toArray) w) ∧ NamesL nx args
  | .round l args => S.run P w = (Instr.yield (ρ.a l) (SV.denL ρ args).toArray).run P w ∧ l < nx ∧ NamesL nx args
  | .split _ => True
  | .fail _ => True
section
variable {ρ : Rho} {b0 : World} {pc : List BE} {h : SHeap} {nx : Nat} {w : World} {sl : Slots} {a : Act} {S : Sem Next}
theorem okSame (H : HeapR ρ b0 h w) (hn : HNames nx h) (v : SV) (hr : S.run P w = .ok (.value (v.den ρ)) w) (hv : NamesV nx v) : ORok P ρ b0 h nx w S (.val v h nx) :=
  ⟨ρ, w, _, hr, .inl rfl, Move.rfl' H hn, hv⟩
theorem okNew (H : HeapR ρ b0 h w) (hn : HNames nx h) (cs : List SV) (t : TypeId) (hr : S.run P w = .ok (.value (.pointer (some ⟨w.heap.size, 0, none⟩))) (w.alloc (.cells (SV.denL ρ cs).toArray t))) (hv : ∀ m ∈ SV.namesL cs, m < nx) :
    ORok P ρ b0 h nx w S (newCells h nx cs t) :=
  ⟨_, _, _, hr, .inl (by simp [SV.den, Rho.set_a]), Move.new H hn (.cells cs t) _ rfl hv, fun n hm => by simp [SV.names] at hm; omega⟩
theorem move_ok (H : HeapR ρ b0 h w) (hn : HNames nx h) (hsl : SlotsR ρ sl a.tmps) (hs : SNames nx sl) (x : Operand) : ORok P ρ b0 h nx w (pure (.value (a.eval x))) (opMove h nx sl x) :=
  okSame H hn _ (by rw [ev_den hsl]; rfl) (ev_names hs x)
theorem pick_ok (hρ : ρ.Ok) (hp : Holds ρ pc) (H : HeapR ρ b0 h w) (hn : HNames nx h) (hsl : SlotsR ρ sl a.tmps) (hs : SNames nx sl) (c x y : Operand) :
    ORok P ρ b0 h nx w (do pure (.value (if ← asBool (a.eval c) then a.eval x else a.eval y))) (opPick pc h nx sl c x y) := by
  unfold opPick
  split
  · rename_i t ht
    split
    · rename_i hd
      have := dec_den hρ hp _ _ hd
      exact okSame H hn _ (by simp [ev_den hsl, ht, SV.den, this, asBool]) (ev_names hs x)
    · rename_i hd
      have := dec_den hρ hp _ _ hd
      exact okSame H hn _ (by simp [ev_den hsl, ht, SV.den, this, asBool]) (ev_names hs y)
    · trivial
  · trivial
theorem alloc_ok (hT : T.Ok P) (H : HeapR ρ b0 h w) (hn : HNames nx h) (t : TypeId) : ORok P ρ b0 h nx w (do pure (.value (← Instr.alloc t true (.tuple #[])))) (opAlloc T h nx t) := by
  unfold opAlloc
  split
  · rename_i ti hti
    have hty := hT.ty t ti hti
    obtain ⟨i, z, hi, _, hz, hc, _⟩ := hty.info
    refine okNew H hn _ _ ?_ (by rw [hty.zn]; simp)
    simp [Instr.alloc, run_zeroOf hi hz, newVar, newRow, hc ρ]
  · trivial
theorem box_ok (H : HeapR ρ b0 h w) (hn : HNames nx h) (hsl : SlotsR ρ sl a.tmps) (hs : SNames nx sl) (t : TypeId) (x : Operand) : ORok P ρ b0 h nx w (do pure (.value (← Instr.box t (a.eval x)))) (opBox h nx sl t x) := by
  unfold opBox
  split
  · rename_i cs hcs
    obtain ⟨h1, h2⟩ := cells_den ρ _ _ hcs
    refine okNew H hn _ _ ?_ (by rw [h2]; exact ev_names hs x)
    simp [Instr.box, newVar, newRow, ev_den hsl, h1]
  · trivial
/-- What cells a thing has, whichever it is; and with others in their stead. -/
theorem obj_cells {o : SObj} {obj : Obj} {cs : List SV} (hR : ObjR ρ o obj) (hc : o.cs = some cs) :
    ∃ (rest : Array Value) (t : TypeId) (lo hi : Nat), obj = .cells ((SV.denL ρ cs).toArray ++ rest) t (lo, hi) ∧ (hi ≤ lo ∨ cs.length + rest.size ≤ lo) ∧
      (∀ cs', cs'.length = cs.length → ObjR ρ (o.put cs') (.cells ((SV.denL ρ cs').toArray ++ rest) t (lo, hi))) ∧ (∀ m ∈ SV.namesL cs, m ∈ o.names) ∧ (∀ cs', ∀ m ∈ (o.put cs').names, m ∈ SV.namesL cs' ∨ m ∈ o.names) := by
  cases o with
  | cells c t =>
    simp only [SObj.cs, Option.some.injEq] at hc
    subst hc
    simp only [ObjR] at hR
    subst hR
    refine ⟨#[], t, 0, 0, by simp, .inl (Nat.le_refl _), fun cs' _ => by simp [SObj.put, ObjR], fun m hm => by simpa [SObj.names] using hm, fun cs' m hm => .inl (by simpa [SObj.put, SObj.names] using hm)⟩
  | row c t cn sz =>
    simp only [SObj.cs, Option.some.injEq] at hc
    subst hc
    obtain ⟨rest, lo, hi, rfl, h1, h2, h3⟩ := hR
    refine ⟨rest, t, lo, hi, rfl, h1, ?_, fun m hm => by simp [SObj.names, hm], ?_⟩
    · intro cs' hl
      refine ⟨rest, lo, hi, rfl, by rw [hl]; exact h1, by rw [hl]; exact h2, h3⟩
    · intro cs' m hm
      simp only [SObj.put, SObj.names, List.mem_cons] at hm ⊢
      rcases hm with hm | hm
      · exact .inr (.inl hm)
      · exact .inl hm
  | loop => simp [SObj.cs] at hc
  | defd => simp [SObj.cs] at hc
theorem ocs_some {n : Nat} {cs : List SV} (hc : ocs h n = some cs) : ∃ o, lk h n = some o ∧ o.cs = some cs := by
  unfold ocs at hc
  split at hc
  · rename_i o ho; exact ⟨o, ho, hc⟩
  · cases hc
theorem cell_at {n : Nat} {o : SObj} {cs : List SV} (H : HeapR ρ b0 h w) (hl : lk h n = some o) (hc : o.cs = some cs) {j : Nat} {v : SV} (hv : cs[j]? = some v) : w.cell? ⟨ρ.a n, j, none⟩ = some (v.den ρ) := by
  obtain ⟨obj, ho, hR⟩ := H.at_ n _ hl
  obtain ⟨rest, t, lo, hi, rfl, _⟩ := obj_cells hR hc
  have hj : j < cs.length := (List.getElem?_eq_some_iff.1 hv).1
  simp only [World.cell?, ho]
  rw [Array.getElem?_append_left (by simpa [denL_length] using hj)]
  simp [denL_get, hv]
theorem load_run (hT : T.Ok P) (H : HeapR ρ b0 h w) (t : TypeId) (n off : Nat) (v : SV) (h' : SHeap) (nx' : Nat) (hl : loadAt T h nx t n off = .val v h' nx') :
    (loadVar t ⟨ρ.a n, off, none⟩).run P w = .ok (v.den ρ) w ∧ h' = h ∧ nx' = nx ∧ ∃ o, lk h n = some o ∧ ∀ m ∈ v.names, m ∈ o.names := by
  unfold loadAt at hl
  split at hl
  · rename_i ti cs hti hocs
    obtain ⟨o, hlk, hcs⟩ := ocs_some hocs
    have hty := hT.ty t ti hti
    obtain ⟨obj, ho, hR⟩ := H.at_ n _ hlk
    obtain ⟨_, _, _, _, _, _, _, hsub, _⟩ := obj_cells hR hcs
    obtain ⟨d, hd, _, hag⟩ := hty.und
    obtain ⟨i, z, hi, hsz, _, _, _⟩ := hty.info
    split at hl
    · rename_i ha
      split at hl
      · rename_i hle
        cases hl
        have hle' : off + ti.size ≤ cs.length := Nat.le_of_ble_eq_true hle
        refine ⟨?_, rfl, rfl, o, hlk, ?_⟩
        · have := run_loadVar_mid (P := P) w (ρ.a n) off t (SV.denL ρ ((cs.drop off).take ti.size)) d ?_ hd (by rw [← hag]; exact ha) (by rw [hi]; simp [hsz, denL_length]; omega)
          · simpa [SV.den] using this
          · intro j v hj
            rw [denL_get, List.getElem?_take] at hj
            split at hj
            · rw [List.getElem?_drop] at hj
              cases hq : cs[off + j]? with
              | none => simp [hq] at hj
              | some u =>
                simp [hq] at hj
                rw [cell_at H hlk hcs hq, hj]
            · simp at hj
        · intro m hm
          simp only [SV.names] at hm
          obtain ⟨v, hv, h2⟩ := mem_namesL.1 hm
          exact hsub m (mem_namesL.2 ⟨v, List.mem_of_mem_drop (List.mem_of_mem_take hv), h2⟩)
      · cases hl
    · rename_i ha
      split at hl
      · rename_i v' hv
        cases hl
        rw [nth_eq] at hv
        refine ⟨?_, rfl, rfl, o, hlk, fun m hm => hsub m (mem_namesL.2 ⟨v, List.mem_of_getElem? hv, hm⟩)⟩
        have hc : w.cell? ⟨ρ.a n, off, none⟩ = some (v.den ρ) := cell_at H hlk hcs hv
        have hr : d.isRow = false := by rw [← hag]; simpa using ha
        simp [loadVar, run_isAgg hd, hr, hc]
      · cases hl
  · cases hl
/-- The columns of what came in, as b0 holds them. -/
def colVal (z : Env) (i : Int) : Col → Value
  | .int k n => .int k (z.f k n i)
  | .bool n => .bool (z.g n i)
  | .other n => z.h n i
def RomOk (o : Orc) (b0 : World) (ρ : Rho) : Prop := ∀ r esz cl, lk o.rom r = some (esz, cl) →
  ρ.z.re r = esz ∧ (0 < ρ.z.rn r → ρ.z.ra r = some ⟨ρ.z.rb r, ρ.z.ro r, none⟩ ∧ ρ.z.rb r < b0.heap.size) ∧ ρ.z.rn r ≤ ρ.z.rc r ∧
  ∀ (i c : Nat) (col : Col), i < ρ.z.rn r → cl[c]? = some col → c < esz → b0.cell? ⟨ρ.z.rb r, ρ.z.ro r + i * esz + c, none⟩ = some (colVal ρ.z i col)
theorem grown_cell {b w : World} (g : b.grownBy w none) {a : Addr} {v : Value} (h : b.cell? a = some v) (hb : a.block < b.heap.size) : w.cell? a = some v := by
  unfold World.cell? at h ⊢
  rw [g.block a.block hb (by simp)]; exact h
theorem colAt_den (i : IE) (c : Col) : (colAt i c).den ρ = colVal ρ.z (i.den ρ) c := by cases c <;> simp [colAt, SV.den, BE.den, IE.den, colVal]
theorem colAt_names (i : IE) (c : Col) : (colAt i c).names = [] := by cases c <;> rfl
theorem cols_eq (i : IE) (l : List Col) : cols i l = l.map (colAt i) := by
  induction l with
  | nil => rfl
  | cons c l ih => simp [cols, ih]
theorem rom_run (hT : T.Ok P) (hρ : ρ.Ok) (hp : Holds ρ pc) (hrom : RomOk T.orac b0 ρ) (H : HeapR ρ b0 h w) (t : TypeId) (r : Nat) (i : IE) (c : Nat) (v : SV) (h' : SHeap) (nx' : Nat) (hl : loadRom T pc h nx t r i c = .val v h' nx') :
    (loadVar t ⟨ρ.z.rb r, ρ.z.ro r + (i.den ρ).toNat * ρ.z.re r + c, none⟩).run P w = .ok (v.den ρ) w ∧ h' = h ∧ nx' = nx ∧ v.names = [] := by
  unfold loadRom at hl
  split at hl
  · rename_i ti esz cl hti hr
    obtain ⟨r1, r2, _, r3⟩ := hrom r esz cl hr
    have hty := hT.ty t ti hti
    obtain ⟨d, hd, _, hag⟩ := hty.und
    obtain ⟨inf, z, hi, hsz, _, _, _⟩ := hty.info
    split at hl
    · rename_i hez
      have hez' : esz = cl.length := by simpa using hez
      split at hl
      · rename_i h0
        have h0' : (0 : Int) ≤ i.den ρ := by
          have := dec_den hρ hp _ _ h0
          rw [mkLe_den] at this
          exact of_decide_eq_true this
        split at hl
        · rename_i h1
          have h1' : ¬ (ρ.z.rn r : Int) ≤ i.den ρ := den_le_f.1 (dec_den hρ hp _ _ h1)
          have hlt : (i.den ρ).toNat < ρ.z.rn r := by omega
          have hin : ((i.den ρ).toNat : Int) = i.den ρ := by omega
          have cell : ∀ (j : Nat) (col : Col), cl[j]? = some col → w.cell? ⟨ρ.z.rb r, ρ.z.ro r + (i.den ρ).toNat * ρ.z.re r + j, none⟩ = some ((colAt i col).den ρ) := by
            intro j col hj
            have hjl : j < cl.length := (List.getElem?_eq_some_iff.1 hj).1
            have := r3 (i.den ρ).toNat j col hlt hj (by omega)
            rw [hin] at this
            rw [r1, colAt_den]
            exact grown_cell H.g0 this (r2 (by omega)).2
          split at hl
          · rename_i ha
            split at hl
            · rename_i hle
              cases hl
              have hle' : c + ti.size ≤ esz := Nat.le_of_ble_eq_true hle
              refine ⟨?_, rfl, rfl, ?_⟩
              · have := run_loadVar_mid (P := P) w (ρ.z.rb r) (ρ.z.ro r + (i.den ρ).toNat * ρ.z.re r + c) t (SV.denL ρ (((cols i cl).drop c).take ti.size)) d ?_ hd (by rw [← hag]; exact ha) (by rw [hi]; simp [hsz, denL_length, cols_eq]; omega)
                · simpa [SV.den] using this
                · intro j v hj
                  rw [denL_get, List.getElem?_take] at hj
                  split at hj
                  · rw [List.getElem?_drop, cols_eq, List.getElem?_map] at hj
                    cases hq : cl[c + j]? with
                    | none => simp [hq] at hj
                    | some u =>
                      simp [hq] at hj
                      rw [← hj, ← cell _ _ hq]
                      simp only [Nat.add_assoc]
                  · simp at hj
              · simp only [SV.names]
                cases hq : SV.namesL (((cols i cl).drop c).take ti.size) with
                | nil => rfl
                | cons m l =>
                  have : m ∈ SV.namesL (((cols i cl).drop c).take ti.size) := by rw [hq]; exact List.mem_cons_self ..
                  obtain ⟨v, hv, hm⟩ := mem_namesL.1 this
                  have hv := List.mem_of_mem_drop (List.mem_of_mem_take hv)
                  rw [cols_eq] at hv
                  obtain ⟨col, _, rfl⟩ := List.mem_map.1 hv
                  rw [colAt_names] at hm; cases hm
            · cases hl
          · rename_i ha
            split at hl
            · rename_i v' hv
              cases hl
              rw [nth_eq, cols_eq, List.getElem?_map] at hv
              cases hq : cl[c]? with
              | none => simp [hq] at hv
              | some u =>
                simp [hq] at hv
                subst hv
                refine ⟨?_, rfl, rfl, colAt_names _ _⟩
                have hr : d.isRow = false := by rw [← hag]; simpa using ha
                simp [loadVar, run_isAgg hd, hr, cell _ _ hq]
            · cases hl
        · cases hl
      · cases hl
    · cases hl
  · cases hl
theorem load_ok (hT : T.Ok P) (hρ : ρ.Ok) (hp : Holds ρ pc) (hrom : RomOk T.orac b0 ρ) (H : HeapR ρ b0 h w) (hn : HNames nx h) (hsl : SlotsR ρ sl a.tmps) (hs : SNames nx sl) (t : TypeId) (x : Operand) :
    ORok P ρ b0 h nx w (do pure (.value (← Instr.loadAt t (a.eval x)))) (opLoad T pc h nx sl t x) := by
  unfold opLoad
  split
  · rename_i n off hx
    cases hl : loadAt T h nx t n off with
    | val v h' nx' =>
      obtain ⟨h1, rfl, rfl, o, hlk, hsub⟩ := load_run hT H t n off v h' nx' hl
      refine okSame H hn v ?_ (fun m hm => (hn n _ hlk).2 m (hsub m hm))
      simp [Instr.loadAt, Instr.sureAddr, ev_den hsl, hx, SV.den, h1]
    | enter f args => simp [loadAt] at hl; (repeat' split at hl) <;> cases hl
    | round f args => simp [loadAt] at hl; (repeat' split at hl) <;> cases hl
    | split c => trivial
    | fail n => trivial
  · rename_i r i c hx
    cases hl : loadRom T pc h nx t r i c with
    | val v h' nx' =>
      obtain ⟨h1, rfl, rfl, hv⟩ := rom_run hT hρ hp hrom H t r i c v h' nx' hl
      refine okSame H hn v ?_ (fun m hm => by rw [hv] at hm; cases hm)
      simp [Instr.loadAt, Instr.sureAddr, ev_den hsl, hx, SV.den, h1]
    | enter f args => simp [loadRom] at hl; (repeat' split at hl) <;> cases hl
    | round f args => simp [loadRom] at hl; (repeat' split at hl) <;> cases hl
    | split c => trivial
    | fail n => trivial
  · trivial
/-- Cells that are written, of a row of which nothing is frozen. -/
theorem storeCells_run (g o : Nat) (t : TypeId) (fz : Nat × Nat) : ∀ (vs : List Value) (i : Nat) (cur : Array Value) (w : World), w.heap[g]? = some (.cells cur t fz) → (fz.2 ≤ fz.1 ∨ cur.size ≤ fz.1) → o + i + vs.length ≤ cur.size → (∀ v ∈ vs, v.oneCell' = true) →
    (storeCells ⟨g, o, none⟩ vs i).run P w = .ok () (w.setRow g (cur.toList.take (o + i) ++ vs ++ cur.toList.drop (o + i + vs.length)).toArray)
  | [], i, cur, w, hg, _, _, _ => by
    simp only [storeCells, List.append_nil, List.length_nil, Nat.add_zero, List.take_append_drop, Array.toArray_toList]
    rw [setRow_self w g cur t fz hg]
    rfl
  | v :: rest, i, cur, w, hg, hfz, hl, h1 => by
    have hi : o + i < cur.size := by simp at hl; omega
    have hadd : (⟨g, o, none⟩ : Addr).add i = ⟨g, o + i, none⟩ := by unfold Addr.add; split <;> simp_all
    have hcell : w.cell? ⟨g, o + i, none⟩ = some cur[o + i] := by simp [World.cell?, hg, hi]
    have hfro : w.frozen? ⟨g, o + i, none⟩ = false := by
      obtain ⟨lo, hi'⟩ := fz
      simp only [World.frozen?, hg, Bool.and_eq_false_iff, decide_eq_false_iff_not]
      simp only at hfz
      omega
    have hst : (store ((⟨g, o, none⟩ : Addr).add i) v).run P w = .ok () (w.setRow g (cur.setIfInBounds (o + i) v)) := by
      rw [hadd, run_store P w _ v _ (h1 v (by simp)), hcell]
      simp [hfro, setCell_eq_setRow w g (o + i) cur t fz v hg]
    have ih := storeCells_run g o t fz rest (i + 1) (cur.setIfInBounds (o + i) v) (w.setRow g (cur.setIfInBounds (o + i) v)) (setRow_heap w g cur _ t _ hg) (by simpa using hfz) (by simp at hl ⊢; omega) (fun x hx => h1 x (by simp [hx]))
    simp only [storeCells, Sem.run_bind, hst, Result.andThen_ok, ih, setRow_setRow]
    congr 3
    have e := list_seg_step cur.toList (o + i) v rest (by simp at hl ⊢; omega)
    simpa [Array.toList_setIfInBounds, Nat.add_assoc] using e
/-- Some of a thing's cells are written. -/
theorem write_ok (H : HeapR ρ b0 h w) (hn : HNames nx h) {n off : Nat} {o : SObj} {cs vs : List SV} (hlk : lk h n = some o) (hcs : o.cs = some cs) (hle : off + vs.length ≤ cs.length) (h1 : allOne vs = true) (hvn : ∀ m ∈ SV.namesL vs, m < nx) :
    ∃ w', (storeCells ⟨ρ.a n, off, none⟩ (SV.denL ρ vs)).run P w = .ok () w' ∧ Move ρ ρ b0 h (up h n (o.put (puts cs off vs))) nx nx w w' := by
  obtain ⟨obj, ho, hR⟩ := H.at_ n _ hlk
  obtain ⟨rest, t, lo, hi, rfl, hfz, hput, hsub, hpn⟩ := obj_cells hR hcs
  have hst := storeCells_run (P := P) (ρ.a n) off t (lo, hi) (SV.denL ρ vs) 0 _ w ho (by simpa [denL_length] using hfz) (by simp [denL_length]; omega) (allOne_den ρ vs h1)
  simp only [Nat.add_zero] at hst
  have hpl : (puts cs off vs).length = cs.length := by rw [puts_eq vs cs off hle]; simp; omega
  have hw : w.setRow (ρ.a n) (((SV.denL ρ cs).toArray ++ rest).toList.take off ++ SV.denL ρ vs ++ ((SV.denL ρ cs).toArray ++ rest).toList.drop (off + (SV.denL ρ vs).length)).toArray = World.putO w (ρ.a n) (.cells ((SV.denL ρ (puts cs off vs)).toArray ++ rest) t (lo, hi)) := by
    have hlt := H.lt hlk
    have hv : w.heap[ρ.a n] = .cells ((SV.denL ρ cs).toArray ++ rest) t (lo, hi) := (Array.getElem?_eq_some_iff.1 ho).2
    have he : (((SV.denL ρ cs).toArray ++ rest).toList.take off ++ SV.denL ρ vs ++ ((SV.denL ρ cs).toArray ++ rest).toList.drop (off + (SV.denL ρ vs).length)).toArray = (SV.denL ρ (puts cs off vs)).toArray ++ rest := by
      apply Array.ext'
      rw [puts_eq vs cs off hle, denL_append, denL_append, denL_take, denL_drop, denL_length]
      simp only [Array.toList_append, List.append_assoc]
      rw [List.take_append_of_le_length (by simp [denL_length]; omega), List.drop_append_of_le_length (by simp [denL_length]; omega)]
    rw [he]
    unfold World.setRow World.putO
    congr 1
    apply Array.ext_getElem?
    intro k
    rw [Array.getElem?_modify, Array.getElem?_setIfInBounds]
    by_cases hk : ρ.a n = k
    · subst hk
      simp [hlt, hv]
    · simp [hk]
  refine ⟨_, hst, ?_⟩
  rw [hw]
  refine Move.upd H hn hlk (o.put (puts cs off vs)) _ (hput _ hpl) ?_
  intro m hm
  rcases hpn _ m hm with hm | hm
  · rw [puts_eq vs cs off hle] at hm
    obtain ⟨v, hv, hm2⟩ := mem_namesL.1 hm
    rcases List.mem_append.1 hv with hv | hv
    · rcases List.mem_append.1 hv with hv | hv
      · exact (hn n _ hlk).2 m (hsub m (mem_namesL.2 ⟨v, List.mem_of_mem_take hv, hm2⟩))
      · exact hvn m (mem_namesL.2 ⟨v, hv, hm2⟩)
    · exact (hn n _ hlk).2 m (hsub m (mem_namesL.2 ⟨v, List.mem_of_mem_drop hv, hm2⟩))
  · exact (hn n _ hlk).2 m hm
theorem store_ok (hT : T.Ok P) (H : HeapR ρ b0 h w) (hn : HNames nx h) (hsl : SlotsR ρ sl a.tmps) (hs : SNames nx sl) (t : TypeId) (x y : Operand) :
    ORok P ρ b0 h nx w (do Instr.storeAt t (a.eval x) (a.eval y); pure .skip) (opStore T h nx sl t x y) := by
  unfold opStore
  split
  · rename_i n off hx
    unfold storeAt
    split
    · rename_i ti o vs hti hlk hvs
      split
      · rename_i cs hcs
        split
        · rename_i h1
          split
          · rename_i h2
            split
            · rename_i h3
              have h1' : vs.length = ti.size := by simpa using h1
              have h2' : off + vs.length ≤ cs.length := Nat.le_of_ble_eq_true h2
              obtain ⟨c1, c2⟩ := cells_den ρ _ _ hvs
              obtain ⟨i, z, hi, hsz, _, _, _⟩ := (hT.ty t ti hti).info
              obtain ⟨w', hst, hmv⟩ := write_ok (P := P) H hn hlk hcs h2' h3 (fun m hm => ev_names hs y m (c2 ▸ hm))
              refine ⟨ρ, w', _, ?_, .inr ⟨rfl, rfl⟩, hmv, fun m hm => by simp [SV.names, SV.namesL] at hm⟩
              simp [Instr.storeAt, Instr.sureAddr, ev_den hsl, hx, SV.den, storeVar, c1, denL_length, h1', run_sizeOf' hi, hsz, hst]
            · trivial
          · trivial
        · trivial
      · trivial
    · trivial
  · trivial
theorem nil_ok (H : HeapR ρ b0 h w) (hn : HNames nx h) (hsl : SlotsR ρ sl a.tmps) (hs : SNames nx sl) (dst : Option Tmp) (ty : TypeId) (pos : String) (af : Array Edge) (gd : Option (Nat × Bool)) (x : Operand) :
    ORok P ρ b0 h nx w (execOp a.eval ⟨dst, .nilCheck x, ty, pos, af, gd⟩) (opNil h nx sl x) := by
  have hx := ev_names hs x
  unfold opNil
  split
  · rename_i n off he
    rw [he] at hx
    exact okSame H hn _ (by simp [execOp, ev_den hsl, he, SV.den]) hx
  · rename_i r i c he
    rw [he] at hx
    exact okSame H hn _ (by simp [execOp, ev_den hsl, he, SV.den]) hx
  · rename_i f p q he
    rw [he] at hx
    exact okSame H hn _ (by simp [execOp, ev_den hsl, he, SV.den, fnDen]) hx
  · trivial
theorem extract_ok (H : HeapR ρ b0 h w) (hn : HNames nx h) (hsl : SlotsR ρ sl a.tmps) (hs : SNames nx sl) (x : Operand) (i : Nat) :
    ORok P ρ b0 h nx w (do pure (.value (← Instr.extract (a.eval x) i))) (opExtract h nx sl x i) := by
  have hx := ev_names hs x
  unfold opExtract
  split
  · rename_i vs he
    rw [he] at hx
    split
    · rename_i v hv
      rw [nth_eq] at hv
      refine okSame H hn _ ?_ (fun m hm => hx m (by simp only [SV.names]; exact mem_namesL.2 ⟨v, List.mem_of_getElem? hv, hm⟩))
      simp [ev_den hsl, he, SV.den, Instr.extract, denL_get, hv]
    · trivial
  · trivial
theorem func_ok (H : HeapR ρ b0 h w) (hn : HNames nx h) (hsl : SlotsR ρ sl a.tmps) (hs : SNames nx sl) (fn : Fn) (f c : Array Operand) :
    ORok P ρ b0 h nx w (do pure (.value (← Instr.makeFunc fn (f.map a.eval) (c.map a.eval)))) (opFunc h nx sl fn f c) := by
  unfold opFunc
  have e : ∀ l : Array Operand, (SV.denL ρ (l.toList.map (ev sl))).toArray = l.map a.eval := by
    intro l
    rw [denL_eq, List.map_map]
    apply Array.ext'
    simp
    exact fun x _ => (ev_den hsl x).symm
  have hN : ∀ l : Array Operand, ∀ m ∈ SV.namesL (l.toList.map (ev sl)), m < nx := by
    intro l m hm
    obtain ⟨v, hv, h2⟩ := mem_namesL.1 hm
    obtain ⟨x, _, rfl⟩ := List.mem_map.1 hv
    exact ev_names hs x m h2
  split
  · trivial
  · rename_i hy
    refine okSame H hn _ ?_ ?_
    · have : fnDen ρ fn = fn := by cases fn <;> first | rfl | (exact absurd rfl (hy _))
      simp [SV.den, this, e, Instr.makeFunc]
    · intro m hm
      cases fn <;> simp only [SV.names, List.mem_append] at hm <;> first
        | (exact absurd rfl (hy _))
        | (rcases hm with hm | hm <;> exact hN _ m hm)
end
end
end Go.Proofs.Ytckmipofdejgoaa.Sx
