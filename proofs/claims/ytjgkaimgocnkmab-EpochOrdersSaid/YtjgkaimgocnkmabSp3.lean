/- A reckoner of Go's small steps over letters: each operation does as it is reckoned. No condition. -/
import Derived.Test.YtjgkaimgocnkmabSp2
set_option linter.unusedVariables false
set_option linter.unusedSimpArgs false
namespace Go.Proofs.Ytjgkaimgocnkmab.Sx
open Go

def StOk : ST → TypeDesc → Prop
  | .int k, d => d = .int k
  | .bool, d => d = .bool
  | .slice e, d => d = .slice e
  | .arr n e, d => d = .array n e
  | .struct fs, d => ∃ F, d = .struct F ∧ F.toList.map (fun f => (f.offset, f.type)) = fs
  | .other, _ => True
/-- Two values of such cells are equal as their cells are. -/
def EqOk (P : Program) (t : TypeId) (ks : List CK) : Prop :=
  ∀ (ρ : Rho) (xs ys : List SV) (c : BE) (w : World) (x y : Operand), eqCells ks xs ys = some c →
    ((do eqGuard .eql t x y (.agg (SV.denL ρ xs).toArray) (.agg (SV.denL ρ ys).toArray); binOp .eql t (.agg (SV.denL ρ xs).toArray) (.agg (SV.denL ρ ys).toArray)) : Sem Value).run P w = .ok (.bool (c.den ρ)) w ∧
    ((do eqGuard .neq t x y (.agg (SV.denL ρ xs).toArray) (.agg (SV.denL ρ ys).toArray); binOp .neq t (.agg (SV.denL ρ xs).toArray) (.agg (SV.denL ρ ys).toArray)) : Sem Value).run P w = .ok (.bool (!c.den ρ)) w
structure TyOk (P : Program) (t : TypeId) (ti : TI) : Prop where
  info : ∃ i z, P.info? t = some i ∧ i.size = ti.size ∧ i.zero = some z ∧ ∀ ρ, z.cells = (SV.denL ρ ti.zero).toArray
  zn : SV.namesL ti.zero = []
  zl : ti.zero.length = ti.size
  und : ∃ d, P.underlying t = some d ∧ StOk ti.und d ∧ ti.agg = d.isRow
structure Tab.Ok (P : Program) (T : Tab) : Prop where
  ty : ∀ t ti, T.ty.get t = some ti → TyOk P t ti
  fn : ∀ f fn, T.fn.get f = some fn → P.funcs[f]? = some fn ∧ (fn.name == "runtime.NumGoroutine") = false
  code : ∀ f fn c, T.fn.get f = some fn → fn.body = some c → codeOk c = true
  eqs : ∀ t ks, lk T.eqs t = some ks → EqOk P t ks
  mixed : P.follows .mixedOrders = true

section
variable {P : Program} {T : Tab}
theorem run_zeroOf {t : TypeId} {i : TypeInfo} {z : Value} (hi : P.info? t = some i) (hz : i.zero = some z) (w : World) : (zeroValue t).run P w = .ok z w := by
  simp [zeroValue, typeInfo, hi, hz]
theorem run_sizeOf' {t : TypeId} {i : TypeInfo} (hi : P.info? t = some i) (w : World) : (sizeOf t).run P w = .ok i.size w := by
  simp [sizeOf, typeInfo, hi]
theorem run_isAgg {t : TypeId} {d : TypeDesc} (h : P.underlying t = some d) (w : World) : (isAgg t).run P w = .ok d.isRow w := by
  unfold isAgg
  rw [Sem.run_bind, run_underlying h w]
  cases d <;> simp
theorem cells_one (ρ : Rho) (v : SV) (h1 : ∀ l, v ≠ .agg l) (h2 : ∀ n, v ≠ .opq n) (h3 : ∀ l, v ≠ .const (.agg l)) : (v.den ρ).cells = #[v.den ρ] := by
  cases v <;> first
    | (exact absurd rfl (h1 _))
    | (exact absurd rfl (h2 _))
    | (simp [SV.den, Value.cells]; done)
    | skip
  rename_i u
  cases u <;> first
    | (exact absurd rfl (h3 _))
    | (simp [SV.den, Value.cells])
theorem cells_den (ρ : Rho) (v : SV) (cs : List SV) (h : v.cells = some cs) : (v.den ρ).cells = (SV.denL ρ cs).toArray ∧ SV.namesL cs = v.names := by
  unfold SV.cells at h
  split at h
  · cases h; exact ⟨by simp [SV.den, Value.cells], rfl⟩
  · cases h
  · cases h
  · rename_i h1 h2 h3
    cases h
    exact ⟨by rw [cells_one ρ v (fun l e => h1 l e) (fun l e => h2 l e) (fun l e => h3 l e)]; simp [SV.denL], by simp [SV.namesL]⟩
theorem one_den (ρ : Rho) (v : SV) (h : v.one = true) : (v.den ρ).oneCell' = true := by
  unfold SV.one at h
  split at h <;> first
    | (cases h; done)
    | skip
  rename_i h1 h2 h3 h4 h5
  cases v <;> first
    | (exact absurd rfl (h1 _))
    | (exact absurd rfl (h2 _))
    | (exact absurd rfl (h3 _))
    | (simp [SV.den, Value.oneCell']; done)
    | skip
  rename_i u
  cases u <;> first
    | (exact absurd rfl (h4 _))
    | (exact absurd rfl (h5 _))
    | (simp [SV.den, Value.oneCell'])
theorem allOne_den (ρ : Rho) (l : List SV) (h : allOne l = true) : ∀ v ∈ SV.denL ρ l, v.oneCell' = true := by
  induction l with
  | nil => simp [SV.denL]
  | cons v l ih =>
    simp only [allOne] at h
    split at h
    · rename_i hv
      intro u hu
      simp only [SV.denL, List.mem_cons] at hu
      rcases hu with rfl | hu
      · exact one_den ρ v hv
      · exact ih h u hu
    · cases h
theorem denL_length (ρ : Rho) (l : List SV) : (SV.denL ρ l).length = l.length := by simp [denL_eq]
theorem denL_get (ρ : Rho) (l : List SV) (i : Nat) : (SV.denL ρ l)[i]? = (l[i]?).map (SV.den ρ) := by simp [denL_eq]
theorem denL_append (ρ : Rho) (l m : List SV) : SV.denL ρ (l ++ m) = SV.denL ρ l ++ SV.denL ρ m := by simp [denL_eq]
theorem denL_take (ρ : Rho) (l : List SV) (n : Nat) : SV.denL ρ (l.take n) = (SV.denL ρ l).take n := by simp [denL_eq]
theorem denL_drop (ρ : Rho) (l : List SV) (n : Nat) : SV.denL ρ (l.drop n) = (SV.denL ρ l).drop n := by simp [denL_eq]
theorem puts_eq (vs : List SV) : ∀ (cs : List SV) (off : Nat), off + vs.length ≤ cs.length → puts cs off vs = cs.take off ++ vs ++ cs.drop (off + vs.length) := by
  induction vs with
  | nil => intro cs off h; simp [puts]
  | cons v vs ih =>
    intro cs off h
    simp only [List.length_cons] at h
    rw [puts, put_eq, ih _ _ (by simp; omega)]
    simp only [List.length_cons]
    apply List.ext_getElem?
    intro k
    simp only [List.getElem?_append, List.length_append, List.length_take, List.length_set, List.getElem?_take, List.getElem?_drop, List.getElem?_set, List.length_cons]
    rw [Nat.min_eq_left (by omega), Nat.min_eq_left (by omega)]
    by_cases h1 : k < off
    · simp [h1, show k < off + 1 by omega, show k < off + 1 + vs.length by omega, show k < off + (vs.length + 1) by omega, show ¬ off = k by omega]
    · by_cases h2 : k = off
      · subst h2
        simp [show k < k + 1 + vs.length by omega, show k < cs.length by omega]
      · by_cases h3 : k < off + 1 + vs.length
        · obtain ⟨j, rfl⟩ : ∃ j, k = off + 1 + j := ⟨k - (off + 1), by omega⟩
          simp [show off + 1 + j < off + 1 + vs.length by omega, show ¬ off + 1 + j < off + 1 by omega, show ¬ off + 1 + j < off by omega, show off + 1 + j < off + (vs.length + 1) by omega, show off + 1 + j - off = j + 1 by omega]
        · have e1 : off + 1 + vs.length + (k - (off + 1 + vs.length)) = k := by omega
          have e2 : off + (vs.length + 1) + (k - (off + (vs.length + 1))) = k := by omega
          simp [h3, show ¬ k < off + (vs.length + 1) by omega, e1, e2, show ¬ off = k by omega]
theorem namesL_of_mem {l : List SV} {N : Nat} : (∀ m ∈ SV.namesL l, m < N) ↔ ∀ v ∈ l, NamesV N v := NamesL.iff.symm
theorem namesL_sub {l l' : List SV} {N : Nat} (h : ∀ m ∈ SV.namesL l, m < N) (hs : ∀ v ∈ l', v ∈ l) : ∀ m ∈ SV.namesL l', m < N := by
  rw [namesL_of_mem] at *
  exact fun v hv => h v (hs v hv)

/-- What an operation does. -/
def ORok (P : Program) (ρ : Rho) (b0 : World) (h : SHeap) (nx : Nat) (w : World) (S : Sem Next) : OR → Prop
  | .val v h' nx' => ∃ ρ' w' nv, S.run P w = .ok nv w' ∧ (nv = .value (v.den ρ') ∨ (nv = .skip ∧ v = .tup [])) ∧ Move ρ ρ' b0 h h' nx nx' w w' ∧ NamesV nx' v
  | .enter f args => (∀ fn, P.funcs[f]? = some fn → fn.body.isSome = true → (fn.name == "runtime.NumGoroutine") = false → S.run P w = .ok (.enter f (SV.denL ρ args).toArray) w) ∧ NamesL nx args
  | .round l args => S.run P w = (Instr.yield (ρ.a l) (SV.denL ρ args).toArray).run P w ∧ l < nx ∧ NamesL nx args
  | .split _ => True
  | .fail _ => True
section
variable {ρ : Rho} {b0 : World} {pc : List BE} {h : SHeap} {nx : Nat} {w : World} {sl : Slots} {a : Act} {S : Sem Next}
theorem okSame (H : HeapR ρ b0 h w) (hn : HNames nx h) (v : SV) (hr : S.run P w = .ok (.value (v.den ρ)) w) (hv : NamesV nx v) : ORok P ρ b0 h nx w S (.val v h nx) :=
  ⟨ρ, w, _, hr, .inl rfl, Move.rfl' H hn, hv⟩
theorem okNew (H : HeapR ρ b0 h w) (hn : HNames nx h) (cs : List SV) (t : TypeId) (hr : S.run P w = .ok (.value (.pointer (some ⟨w.heap.size, 0, none⟩))) (w.alloc (.cells (SV.denL ρ cs).toArray t))) (hv : ∀ m ∈ SV.namesL cs, m < nx) :
    ORok P ρ b0 h nx w S (newCells h nx cs t) :=
  ⟨_, _, _, hr, .inl (by simp [SV.den, Rho.set_a]), Move.new H hn (.cells cs t) _ rfl hv, fun n hm => by simp [SV.names] at hm; omega⟩
theorem move_ok (H : HeapR ρ b0 h w) (hn : HNames nx h) (hsl : SlotsR ρ sl a.tmps) (hs : SNames nx sl) (x : Operand) : ORok P ρ b0 h nx w (pure (.value (a.eval x))) (opMove h nx sl x) :=
  okSame H hn _ (by rw [ev_den hsl]; rfl) (ev_names hs x)
theorem pick_ok (hρ : ρ.Ok) (hp : Holds ρ pc) (H : HeapR ρ b0 h w) (hn : HNames nx h) (hsl : SlotsR ρ sl a.tmps) (hs : SNames nx sl) (c x y : Operand) :
    ORok P ρ b0 h nx w (do pure (.value (if ← asBool (a.eval c) then a.eval x else a.eval y))) (opPick pc h nx sl c x y) := by
  unfold opPick
  split
  · rename_i t ht
    split
    · rename_i hd
      have := dec_den hρ hp _ _ hd
      exact okSame H hn _ (by simp [ev_den hsl, ht, SV.den, this, asBool]) (ev_names hs x)
    · rename_i hd
      have := dec_den hρ hp _ _ hd
      exact okSame H hn _ (by simp [ev_den hsl, ht, SV.den, this, asBool]) (ev_names hs y)
    · trivial
  · trivial
theorem alloc_ok (hT : T.Ok P) (H : HeapR ρ b0 h w) (hn : HNames nx h) (t : TypeId) : ORok P ρ b0 h nx w (do pure (.value (← Instr.alloc t true (.tuple #[])))) (opAlloc T h nx t) := by
  unfold opAlloc
  split
  · rename_i ti hti
    have hty := hT.ty t ti hti
    obtain ⟨i, z, hi, _, hz, hc⟩ := hty.info
    refine okNew H hn _ _ ?_ (by rw [hty.zn]; simp)
    simp [Instr.alloc, run_zeroOf hi hz, newVar, newRow, hc ρ]
  · trivial
theorem box_ok (H : HeapR ρ b0 h w) (hn : HNames nx h) (hsl : SlotsR ρ sl a.tmps) (hs : SNames nx sl) (t : TypeId) (x : Operand) : ORok P ρ b0 h nx w (do pure (.value (← Instr.box t (a.eval x)))) (opBox h nx sl t x) := by
  unfold opBox
  split
  · rename_i cs hcs
    obtain ⟨h1, h2⟩ := cells_den ρ _ _ hcs
    refine okNew H hn _ _ ?_ (by rw [h2]; exact ev_names hs x)
    simp [Instr.box, newVar, newRow, ev_den hsl, h1]
  · trivial
theorem load_run (hT : T.Ok P) (H : HeapR ρ b0 h w) (t : TypeId) (n off : Nat) (v : SV) (h' : SHeap) (nx' : Nat) (hl : loadAt T h nx t n off = .val v h' nx') :
    (loadVar t ⟨ρ.a n, off, none⟩).run P w = .ok (v.den ρ) w ∧ h' = h ∧ nx' = nx ∧ ∃ cs u, lk h n = some (.cells cs u) ∧ ∀ m ∈ v.names, m ∈ SV.namesL cs := by
  unfold loadAt at hl
  split at hl
  · rename_i ti cs u hti hlk
    have hty := hT.ty t ti hti
    obtain ⟨obj, ho, hR⟩ := H.at_ n _ hlk
    simp only [ObjR] at hR
    subst hR
    obtain ⟨d, hd, _, hag⟩ := hty.und
    obtain ⟨i, z, hi, hsz, _, _⟩ := hty.info
    split at hl
    · rename_i ha
      split at hl
      · rename_i hle
        cases hl
        have hle' : off + ti.size ≤ cs.length := Nat.le_of_ble_eq_true hle
        refine ⟨?_, rfl, rfl, cs, u, hlk, ?_⟩
        · have := run_loadVar_mid (P := P) w (ρ.a n) off t (SV.denL ρ ((cs.drop off).take ti.size)) d ?_ hd (by rw [← hag]; exact ha) (by rw [hi]; simp [hsz, denL_length]; omega)
          · simpa [SV.den] using this
          · intro j v hj
            rw [cell_of_row w _ _ _ u (0, 0) ho]
            rw [denL_get, List.getElem?_take] at hj
            split at hj
            · rw [List.getElem?_drop] at hj
              simpa [denL_get] using hj
            · simp at hj
        · intro m hm
          simp only [SV.names] at hm
          obtain ⟨v, hv, h2⟩ := mem_namesL.1 hm
          exact mem_namesL.2 ⟨v, List.mem_of_mem_drop (List.mem_of_mem_take hv), h2⟩
      · cases hl
    · rename_i ha
      split at hl
      · rename_i v' hv
        cases hl
        rw [nth_eq] at hv
        refine ⟨?_, rfl, rfl, cs, u, hlk, fun m hm => mem_namesL.2 ⟨v, List.mem_of_getElem? hv, hm⟩⟩
        have hc : w.cell? ⟨ρ.a n, off, none⟩ = some (v.den ρ) := by
          rw [cell_of_row w _ _ _ u (0, 0) ho]
          simp [denL_get, hv]
        have hr : d.isRow = false := by rw [← hag]; simpa using ha
        simp [loadVar, run_isAgg hd, hr, hc]
      · cases hl
  · cases hl
theorem load_ok (hT : T.Ok P) (H : HeapR ρ b0 h w) (hn : HNames nx h) (hsl : SlotsR ρ sl a.tmps) (hs : SNames nx sl) (t : TypeId) (x : Operand) :
    ORok P ρ b0 h nx w (do pure (.value (← Instr.loadAt t (a.eval x)))) (opLoad T h nx sl t x) := by
  unfold opLoad
  split
  · rename_i n off hx
    cases hl : loadAt T h nx t n off with
    | val v h' nx' =>
      obtain ⟨h1, rfl, rfl, cs, u, hlk, hsub⟩ := load_run hT H t n off v h' nx' hl
      refine okSame H hn v ?_ (fun m hm => (hn n _ hlk).2 m (hsub m hm))
      simp [Instr.loadAt, Instr.sureAddr, ev_den hsl, hx, SV.den, h1]
    | enter f args => simp [loadAt] at hl; (repeat' split at hl) <;> cases hl
    | round f args => simp [loadAt] at hl; (repeat' split at hl) <;> cases hl
    | split c => trivial
    | fail n => trivial
  · trivial
theorem store_ok (hT : T.Ok P) (H : HeapR ρ b0 h w) (hn : HNames nx h) (hsl : SlotsR ρ sl a.tmps) (hs : SNames nx sl) (t : TypeId) (x y : Operand) :
    ORok P ρ b0 h nx w (do Instr.storeAt t (a.eval x) (a.eval y); pure .skip) (opStore T h nx sl t x y) := by
  unfold opStore
  split
  · rename_i n off hx
    unfold storeAt
    split
    · rename_i ti cs u vs hti hlk hvs
      split
      · rename_i h1
        split
        · rename_i h2
          split
          · rename_i h3
            have h1' : vs.length = ti.size := by simpa using h1
            have h2' : off + vs.length ≤ cs.length := Nat.le_of_ble_eq_true h2
            obtain ⟨c1, c2⟩ := cells_den ρ _ _ hvs
            obtain ⟨i, z, hi, hsz, _, _⟩ := (hT.ty t ti hti).info
            obtain ⟨obj, ho, hR⟩ := H.at_ n _ hlk
            simp only [ObjR] at hR
            subst hR
            have hst := run_storeCells_at (P := P) (ρ.a n) off u (SV.denL ρ vs) 0 _ w ho (by simp [denL_length]; omega) (allOne_den ρ vs h3)
            simp only [Nat.add_zero] at hst
            have hw : w.setRow (ρ.a n) ((SV.denL ρ cs).take off ++ SV.denL ρ vs ++ (SV.denL ρ cs).drop (off + (SV.denL ρ vs).length)).toArray = World.putO w (ρ.a n) (.cells (SV.denL ρ (puts cs off vs)).toArray u) := by
              have hlt := H.lt hlk
              have hv : w.heap[ρ.a n] = .cells (SV.denL ρ cs).toArray u (0, 0) := (Array.getElem?_eq_some_iff.1 ho).2
              rw [puts_eq vs cs off h2', denL_append, denL_append, denL_take, denL_drop, denL_length]
              unfold World.setRow World.putO
              congr 1
              apply Array.ext_getElem?
              intro k
              rw [Array.getElem?_modify, Array.getElem?_setIfInBounds]
              by_cases hk : ρ.a n = k
              · subst hk
                simp [hlt, hv]
              · simp [hk]
            refine ⟨ρ, _, _, ?_, .inr ⟨rfl, rfl⟩, Move.upd H hn hlk (.cells (puts cs off vs) u) _ rfl ?_, fun m hm => by simp [SV.names, SV.namesL] at hm⟩
            · rw [← hw]
              simp [Instr.storeAt, Instr.sureAddr, ev_den hsl, hx, SV.den, storeVar, c1, denL_length, h1', run_sizeOf' hi, hsz, hst]
            · rw [puts_eq vs cs off h2']
              intro m hm
              simp only [SObj.names] at hm
              obtain ⟨v, hv, hm2⟩ := mem_namesL.1 hm
              rcases List.mem_append.1 hv with hv | hv
              · rcases List.mem_append.1 hv with hv | hv
                · exact (hn n _ hlk).2 m (mem_namesL.2 ⟨v, List.mem_of_mem_take hv, hm2⟩)
                · exact ev_names hs y m (c2 ▸ mem_namesL.2 ⟨v, hv, hm2⟩)
              · exact (hn n _ hlk).2 m (mem_namesL.2 ⟨v, List.mem_of_mem_drop hv, hm2⟩)
          · trivial
        · trivial
      · trivial
    · trivial
  · trivial
theorem nil_ok (H : HeapR ρ b0 h w) (hn : HNames nx h) (hsl : SlotsR ρ sl a.tmps) (hs : SNames nx sl) (dst : Option Tmp) (ty : TypeId) (pos : String) (af : Array Edge) (gd : Option (Nat × Bool)) (x : Operand) :
    ORok P ρ b0 h nx w (execOp a.eval ⟨dst, .nilCheck x, ty, pos, af, gd⟩) (opNil h nx sl x) := by
  have hx := ev_names hs x
  unfold opNil
  split
  · rename_i n off he
    rw [he] at hx
    exact okSame H hn _ (by simp [execOp, ev_den hsl, he, SV.den]) hx
  · rename_i f p q he
    rw [he] at hx
    exact okSame H hn _ (by simp [execOp, ev_den hsl, he, SV.den, fnDen]) hx
  · trivial
theorem extract_ok (H : HeapR ρ b0 h w) (hn : HNames nx h) (hsl : SlotsR ρ sl a.tmps) (hs : SNames nx sl) (x : Operand) (i : Nat) :
    ORok P ρ b0 h nx w (do pure (.value (← Instr.extract (a.eval x) i))) (opExtract h nx sl x i) := by
  have hx := ev_names hs x
  unfold opExtract
  split
  · rename_i vs he
    rw [he] at hx
    split
    · rename_i v hv
      rw [nth_eq] at hv
      refine okSame H hn _ ?_ (fun m hm => hx m (by simp only [SV.names]; exact mem_namesL.2 ⟨v, List.mem_of_getElem? hv, hm⟩))
      simp [ev_den hsl, he, SV.den, Instr.extract, denL_get, hv]
    · trivial
  · trivial
theorem func_ok (H : HeapR ρ b0 h w) (hn : HNames nx h) (hsl : SlotsR ρ sl a.tmps) (hs : SNames nx sl) (fn : Fn) (f c : Array Operand) :
    ORok P ρ b0 h nx w (do pure (.value (← Instr.makeFunc fn (f.map a.eval) (c.map a.eval)))) (opFunc h nx sl fn f c) := by
  unfold opFunc
  have e : ∀ l : Array Operand, (SV.denL ρ (l.toList.map (ev sl))).toArray = l.map a.eval := by
    intro l
    rw [denL_eq, List.map_map]
    apply Array.ext'
    simp
    exact fun x _ => (ev_den hsl x).symm
  have hN : ∀ l : Array Operand, ∀ m ∈ SV.namesL (l.toList.map (ev sl)), m < nx := by
    intro l m hm
    obtain ⟨v, hv, h2⟩ := mem_namesL.1 hm
    obtain ⟨x, _, rfl⟩ := List.mem_map.1 hv
    exact ev_names hs x m h2
  split
  · trivial
  · rename_i hy
    refine okSame H hn _ ?_ ?_
    · have : fnDen ρ fn = fn := by cases fn <;> first | rfl | (exact absurd rfl (hy _))
      simp [SV.den, this, e, Instr.makeFunc]
    · intro m hm
      cases fn <;> simp only [SV.names, List.mem_append] at hm <;> first
        | (exact absurd rfl (hy _))
        | (rcases hm with hm | hm <;> exact hN _ m hm)
end
end
end Go.Proofs.Ytjgkaimgocnkmab.Sx
