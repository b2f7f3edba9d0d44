/- A reckoner of Go's small steps over letters: letters and memories. No condition. -/
import Derived.Test.YtjgkaimgocnkmabSp1c
import Derived.Laws.StructEq
import Derived.Laws.CopyRow
import Derived.Laws.AppendOwn
import Derived.Deep.MidRow
set_option linter.unusedVariables false
set_option linter.unusedSimpArgs false
namespace Go.Proofs.Ytjgkaimgocnkmab.Sx
open Go

theorem denL_eq (ρ : Rho) (l : List SV) : SV.denL ρ l = l.map (SV.den ρ) := by
  induction l with
  | nil => simp [SV.denL]
  | cons v l ih => simp [SV.denL, ih]
theorem namesL_eq (l : List SV) : SV.namesL l = l.flatMap SV.names := by
  induction l with
  | nil => simp [SV.namesL]
  | cons v l ih => simp [SV.namesL, ih]
theorem mem_namesL {l : List SV} {m : Nat} : m ∈ SV.namesL l ↔ ∃ v ∈ l, m ∈ v.names := by
  rw [namesL_eq, List.mem_flatMap]

/-- The same letters, but for the blocks from lo to hi. -/
structure Agr (ρ ρ' : Rho) (lo hi : Nat) : Prop where
  i : ρ'.i = ρ.i
  b : ρ'.b = ρ.b
  l : ρ'.l = ρ.l
  v : ρ'.v = ρ.v
  z : ρ'.z = ρ.z
  a : ∀ n, n < lo ∨ hi ≤ n → ρ'.a n = ρ.a n
theorem Agr.refl (ρ : Rho) (lo hi : Nat) : Agr ρ ρ lo hi := ⟨rfl, rfl, rfl, rfl, rfl, fun _ _ => rfl⟩
theorem Agr.same {ρ ρ' : Rho} {lo hi : Nat} (h : Agr ρ ρ' lo hi) : Same ρ ρ' := ⟨h.i, h.b, h.l, h.v, h.z⟩
theorem Agr.ok {ρ ρ' : Rho} {lo hi : Nat} (h : Agr ρ ρ' lo hi) (hρ : ρ.Ok) : ρ'.Ok := h.same.ok hρ
theorem IE.den_agr {ρ ρ' : Rho} {lo hi : Nat} (h : Agr ρ ρ' lo hi) (e : IE) : e.den ρ' = e.den ρ := IE.den_same h.same e
theorem BE.den_agr {ρ ρ' : Rho} {lo hi : Nat} (h : Agr ρ ρ' lo hi) (e : BE) : e.den ρ' = e.den ρ := BE.den_same h.same e
theorem LE.den_agr {ρ ρ' : Rho} {lo hi : Nat} (h : Agr ρ ρ' lo hi) (e : LE) : e.den ρ' = e.den ρ := LE.den_same h.same e
theorem capDen_same {ρ ρ' : Rho} (h : Same ρ ρ') (n : Nat) (c : Option IE) : capDen ρ' n c = capDen ρ n c := by
  cases c <;> simp [capDen, IE.den_same h]
theorem Agr.holds {ρ ρ' : Rho} {lo hi : Nat} (h : Agr ρ ρ' lo hi) {pc : List BE} : Holds ρ' pc ↔ Holds ρ pc := by
  unfold Holds
  simp [BE.den_agr h]
mutual
theorem SV.den_agr {ρ ρ' : Rho} {lo hi : Nat} (h : Agr ρ ρ' lo hi) : ∀ (v : SV), (∀ n ∈ v.names, n < lo ∨ hi ≤ n) → v.den ρ' = v.den ρ
  | .bool b, _ => by simp [SV.den, BE.den_agr h]
  | .int k e, _ => by simp [SV.den, IE.den_agr h]
  | .ptr n off, hn => by simp [SV.den, h.a n (hn n (by simp [SV.names]))]
  | .slice n off len cap, hn => by simp [SV.den, h.a n (hn n (by simp [SV.names]))]
  | .func fn f c, hn => by
    have hf : fnDen ρ' fn = fnDen ρ fn := by
      cases fn <;> simp [fnDen]
      exact h.a _ (hn _ (by simp [SV.names]))
    have h1 := SV.denL_agr h f (fun n hm => hn n (by cases fn <;> simp [SV.names, hm]))
    have h2 := SV.denL_agr h c (fun n hm => hn n (by cases fn <;> simp [SV.names, hm]))
    simp [SV.den, hf, h1, h2]
  | .iface t v, hn => by simp [SV.den, SV.den_agr h v (fun n hm => hn n (by simpa [SV.names] using hm))]
  | .agg cs, hn => by simp [SV.den, SV.denL_agr h cs (fun n hm => hn n (by simpa [SV.names] using hm))]
  | .tup vs, hn => by simp [SV.den, SV.denL_agr h vs (fun n hm => hn n (by simpa [SV.names] using hm))]
  | .opq n, _ => by simp [SV.den, h.v]
  | .const v, _ => by simp [SV.den]
  | .str bs, _ => by
    have : bs.map (IE.den ρ') = bs.map (IE.den ρ) := List.map_congr_left fun e _ => IE.den_agr h e
    simp [SV.den, this]
  | .sl n cn sz off len, hn => by simp [SV.den, h.a n (hn n (by simp [SV.names])), h.a cn (hn cn (by simp [SV.names]))]
  | .rom r off len cap, _ => by simp [SV.den, h.z, IE.den_agr h, capDen_same h.same]
  | .rptr r i c, _ => by simp [SV.den, h.z, IE.den_agr h]
  | .sll n cn sz off len cap, hn => by simp [SV.den, h.a n (hn n (by simp [SV.names])), h.a cn (hn cn (by simp [SV.names])), IE.den_agr h, capDen_same h.same]
  | .lptr n sz i c, hn => by simp [SV.den, h.a n (hn n (by simp [SV.names])), IE.den_agr h]
  | .lstr l, _ => by simp [SV.den, LE.den_agr h]
  | .cel l i j, _ => by simp [SV.den, LE.den_agr h, IE.den_agr h]
theorem SV.denL_agr {ρ ρ' : Rho} {lo hi : Nat} (h : Agr ρ ρ' lo hi) : ∀ (l : List SV), (∀ n ∈ SV.namesL l, n < lo ∨ hi ≤ n) → SV.denL ρ' l = SV.denL ρ l
  | [], _ => rfl
  | v :: l, hn => by
    rw [SV.denL, SV.denL, SV.den_agr h v (fun n hm => hn n (by simp [SV.namesL, hm])), SV.denL_agr h l (fun n hm => hn n (by simp [SV.namesL, hm]))]
end

/-- A frame's slots, and the values in them. -/
def SlotsR (ρ : Rho) (sl : Slots) (a : Array Value) : Prop := ∀ i, (get2 sl i).map (SV.den ρ) = a[i]?
def NamesV (N : Nat) (v : SV) : Prop := ∀ n ∈ v.names, n < N
def NamesL (N : Nat) (l : List SV) : Prop := ∀ v ∈ l, NamesV N v
def SNames (N : Nat) (sl : Slots) : Prop := ∀ i v, get2 sl i = some v → NamesV N v
def HNames (N : Nat) (h : SHeap) : Prop := ∀ n o, lk h n = some o → n < N ∧ ∀ m ∈ o.names, m < N
theorem NamesV.le {N M : Nat} {v : SV} (h : NamesV N v) (hm : N ≤ M) : NamesV M v := fun n hn => Nat.lt_of_lt_of_le (h n hn) hm
theorem SNames.le {N M : Nat} {v : Slots} (h : SNames N v) (hm : N ≤ M) : SNames M v := fun i v hv => (h i v hv).le hm
theorem NamesL.iff {N : Nat} {l : List SV} : NamesL N l ↔ ∀ m ∈ SV.namesL l, m < N := by
  constructor
  · intro h m hm
    obtain ⟨v, hv, h2⟩ := mem_namesL.1 hm
    exact h v hv m h2
  · exact fun h v hv m hm => h m (mem_namesL.2 ⟨v, hv, hm⟩)
theorem SlotsR.agr {ρ ρ' : Rho} {sl : Slots} {a : Array Value} {lo hi : Nat} (h : SlotsR ρ sl a) (g : Agr ρ ρ' lo hi) (hn : ∀ i v, get2 sl i = some v → ∀ n ∈ v.names, n < lo ∨ hi ≤ n) : SlotsR ρ' sl a := by
  intro i
  rw [← h i]
  cases hv : get2 sl i with
  | none => rfl
  | some v => simp [SV.den_agr g v (hn i v hv)]
theorem SlotsR.put {ρ : Rho} {sl : Slots} {a : Array Value} (h : SlotsR ρ sl a) (d : Nat) (v : SV) : SlotsR ρ (put2 sl d v) (a.setIfInBounds d (v.den ρ)) := by
  intro i
  rw [get2_put2, Array.getElem?_setIfInBounds]
  have hi := h i
  by_cases hd : d = i
  · subst hd
    simp only [if_true]
    split
    · rename_i hlt
      rw [Array.getElem?_eq_getElem hlt] at hi
      cases hg : get2 sl d <;> simp [hg] at hi ⊢
    · rename_i hlt
      rw [Array.getElem?_eq_none (by omega)] at hi
      cases hg : get2 sl d <;> simp [hg] at hi ⊢
  · simp [hd, hi]
theorem SNames.put {N : Nat} {sl : Slots} {v : SV} (h : SNames N sl) (d : Nat) (hv : NamesV N v) : SNames N (put2 sl d v) := by
  intro i u hu
  rw [get2_put2] at hu
  split at hu
  · cases hg : get2 sl i <;> simp [hg] at hu
    exact hu ▸ hv
  · exact h i u hu
theorem SlotsR.putD {ρ : Rho} {sl : Slots} {a : Act} (h : SlotsR ρ sl a.tmps) (d : Option Tmp) (v : SV) : SlotsR ρ (putD sl d v) (a.put d (v.den ρ)).tmps := by
  cases d with
  | none => exact h
  | some d => exact h.put d v
theorem SNames.putD {N : Nat} {sl : Slots} {v : SV} (h : SNames N sl) (d : Option Tmp) (hv : NamesV N v) : SNames N (putD sl d v) := by
  cases d with
  | none => exact h
  | some d => exact h.put d hv

/- operands -/
theorem ofBytes_den (ρ : Rho) (l : List UInt8) : ((ofBytes l).map (IE.den ρ)).map (fun n => UInt8.ofNat n.toNat) = l := by
  induction l with
  | nil => rfl
  | cons b l ih => simp only [ofBytes, fnat_eq, List.map_cons, IE.den, ih]; simp
theorem bytesOf_of (ρ : Rho) (s : ByteArray) : bytesOf ((ofBytes s.data.toList).map (IE.den ρ)) = s := by
  unfold bytesOf
  rw [ofBytes_den]
theorem ofScalar_den (ρ : Rho) (v : Value) : (ofScalar v).den ρ = v := by cases v <;> simp [ofScalar, SV.den, IE.den, BE.den, bytesOf_of]
theorem ofConst_den (ρ : Rho) (v : Value) : (ofConst v).den ρ = v := by
  cases v <;> simp [ofConst, SV.den, IE.den, BE.den, bytesOf_of]
  · simp [denL_eq, Function.comp_def, ofScalar_den]
  · split
    · rename_i h
      simp [SV.den, SV.denL]
      exact h
    · simp [SV.den]
theorem ofScalar_names (v : Value) : (ofScalar v).names = [] := by cases v <;> simp [ofScalar, SV.names]
theorem ofConst_names (v : Value) : (ofConst v).names = [] := by
  cases v <;> simp [ofConst, SV.names, namesL_eq, ofScalar_names]
  split <;> simp [SV.names, SV.namesL]
theorem ev_den {ρ : Rho} {sl : Slots} {a : Act} (h : SlotsR ρ sl a.tmps) (x : Operand) : a.eval x = (ev sl x).den ρ := by
  cases x with
  | tmp t =>
    simp only [Act.eval, ev]
    rw [Array.getD_eq_getD_getElem?, ← h t]
    cases get2 sl t <;> simp [SV.den, SV.denL, undef]
  | const v => simp [Act.eval, ev, ofConst_den]
  | global g => simp [Act.eval, ev, SV.den]
  | func f => simp [Act.eval, ev, SV.den, SV.denL, fnDen]
theorem ev_names {N : Nat} {sl : Slots} (h : SNames N sl) (x : Operand) : NamesV N (ev sl x) := by
  cases x with
  | tmp t =>
    simp only [ev]
    cases hg : get2 sl t with
    | none => intro n hn; simp [SV.names, SV.namesL] at hn
    | some v => exact h t v hg
  | const v => intro n hn; simp [ev, ofConst_names] at hn
  | global g => intro n hn; simp [ev, SV.names] at hn
  | func f => intro n hn; simp [ev, SV.names, SV.namesL] at hn

/- memory -/
def ObjR (ρ : Rho) : SObj → Obj → Prop
  | .cells cs t, o => o = .cells (SV.denL ρ cs).toArray t (0, 0)
  | .row cs t cn sz, o => ∃ (rest : Array Value) (lo hi : Nat), o = .cells ((SV.denL ρ cs).toArray ++ rest) t (lo, hi) ∧ (hi ≤ lo ∨ cs.length + rest.size ≤ lo) ∧ cs.length + rest.size = ρ.a cn * sz ∧ ρ.a cn ≤ maxLen ∧ 0 < sz
  | .rowl c tot ks t cn sz, o => ∃ (rest : Array Value) (lo hi : Nat), o = .cells ((c.den ρ).flatten.toArray ++ rest) t (lo, hi) ∧ (hi ≤ lo ∨ (c.den ρ).flatten.length + rest.size ≤ lo) ∧ (c.den ρ).flatten.length + rest.size = ρ.a cn * sz ∧ ρ.a cn ≤ maxLen ∧ 0 < sz ∧
      ks.length = sz ∧ Typed ks (c.den ρ) ∧ tot.den ρ = ((c.den ρ).length : Int)
  | .loop st pend fn tmps ps as body d, o => ∃ X, SlotsR ρ tmps X ∧ codeOk as = true ∧ codeOk body = true ∧ (∀ c, pend = some c → codeOk c = true) ∧ o = .loop { state := st, pending := pend, fn := fn, tmps := X, params := ps.toArray, assign := as, body := body, defers := ρ.a d }
  | .defd s, o => o = .deferred (if s then some [] else none)
/-- What a memory holds, by letters (L: which thing stands under which name). -/
structure HeapF (ρ : Rho) (b0 : World) (L : Nat → Option SObj) (w : World) : Prop where
  g0 : b0.grownBy w none
  at_ : ∀ n o, L n = some o → ∃ obj, w.heap[ρ.a n]? = some obj ∧ ObjR ρ o obj
  own : ∀ n o, L n = some o → b0.heap.size ≤ ρ.a n
  inj : ∀ n m o p, L n = some o → L m = some p → ρ.a n = ρ.a m → n = m
abbrev HeapR (ρ : Rho) (b0 : World) (h : SHeap) (w : World) : Prop := HeapF ρ b0 (lk h) w
structure Move (ρ ρ' : Rho) (b0 : World) (h h' : SHeap) (nx nx' : Nat) (w w' : World) : Prop where
  agr : Agr ρ ρ' nx nx'
  le : nx ≤ nx'
  heap : HeapR ρ' b0 h' w'
  size : w.heap.size ≤ w'.heap.size
  same : ∀ k, k < w.heap.size → (∀ n o, lk h n = some o → ρ.a n ≠ k) → w'.heap[k]? = w.heap[k]?
  dom : ∀ n o, lk h' n = some o → (∃ p, lk h n = some p) ∨ (nx ≤ n ∧ n < nx' ∧ (w.heap.size ≤ ρ'.a n ∨ ∃ m p, lk h m = some p ∧ ρ'.a n = ρ.a m))
  names : HNames nx' h'
theorem get2_flat {tmps : Slots} {i : Nat} {v : SV} (hv : get2 tmps i = some v) : v ∈ tmps.flatMap (·.take 8) := by
  rw [get2_eq] at hv
  cases hc : tmps[i / 8]? with
  | none => simp [hc] at hv
  | some c =>
    simp only [hc, Option.bind_some] at hv
    refine List.mem_flatMap.2 ⟨c, List.mem_of_getElem? hc, ?_⟩
    have : (c.take 8)[i % 8]? = some v := by rw [List.getElem?_take, if_pos (Nat.mod_lt _ (by decide))]; exact hv
    exact List.mem_of_getElem? this
theorem flat_get2 {tmps : Slots} {v : SV} (hv : v ∈ tmps.flatMap (·.take 8)) : ∃ i, get2 tmps i = some v := by
  obtain ⟨c, hc, hv⟩ := List.mem_flatMap.1 hv
  obtain ⟨j, hj⟩ := List.mem_iff_getElem?.1 hc
  obtain ⟨p, hp⟩ := List.mem_iff_getElem?.1 hv
  rw [List.getElem?_take] at hp
  split at hp
  · refine ⟨8 * j + p, ?_⟩
    rw [get2_eq, show (8 * j + p) / 8 = j by omega, show (8 * j + p) % 8 = p by omega, hj]
    exact hp
  · cases hp
theorem ONames.flat {N : Nat} {tmps : Slots} (h : ∀ m ∈ SV.namesL (tmps.flatMap (·.take 8)), m < N) : SNames N tmps :=
  fun i v hv m hm => h m (mem_namesL.2 ⟨v, get2_flat hv, hm⟩)
theorem ONames.back {N : Nat} {tmps : Slots} (h : SNames N tmps) : ∀ m ∈ SV.namesL (tmps.flatMap (·.take 8)), m < N := by
  intro m hm
  obtain ⟨v, hv, h2⟩ := mem_namesL.1 hm
  obtain ⟨i, hi⟩ := flat_get2 hv
  exact h i v hi m h2
theorem ObjR.agr {ρ ρ' : Rho} {lo hi : Nat} (g : Agr ρ ρ' lo hi) {o : SObj} {obj : Obj} (h : ObjR ρ o obj) (hn : ∀ m ∈ o.names, m < lo ∨ hi ≤ m) : ObjR ρ' o obj := by
  cases o with
  | cells cs t =>
    have := SV.denL_agr g cs (by simpa [SObj.names] using hn)
    simp only [ObjR] at h ⊢
    rw [this]; exact h
  | row cs t cn sz =>
    have := SV.denL_agr g cs (fun m hm => hn m (by simp [SObj.names, hm]))
    simp only [ObjR] at h ⊢
    rw [this, g.a cn (hn cn (by simp [SObj.names]))]; exact h
  | rowl c tot ks t cn sz =>
    simp only [ObjR] at h ⊢
    rw [LE.den_agr g, IE.den_agr g, g.a cn (hn cn (by simp [SObj.names]))]; exact h
  | loop st pend fn tmps ps as body d =>
    obtain ⟨X, hX, c1, c2, c3, ho⟩ := h
    refine ⟨X, hX.agr g ?_, c1, c2, c3, ?_⟩
    · intro i v hv m hm
      refine hn m ?_
      simp only [SObj.names, List.mem_cons]
      exact .inr (mem_namesL.2 ⟨v, get2_flat hv, hm⟩)
    · rw [g.a d (hn d (by simp [SObj.names]))]; exact ho
  | defd s => exact h
section
variable {ρ : Rho} {b0 : World} {h : SHeap} {nx : Nat} {w : World}
theorem HeapR.lt (H : HeapR ρ b0 h w) {n : Nat} {o : SObj} (hn : lk h n = some o) : ρ.a n < w.heap.size := by
  obtain ⟨obj, ho, _⟩ := H.at_ n o hn
  exact (Array.getElem?_eq_some_iff.1 ho).1
theorem Move.rfl' (H : HeapR ρ b0 h w) (hn : HNames nx h) : Move ρ ρ b0 h h nx nx w w :=
  ⟨.refl _ _ _, Nat.le_refl _, H, Nat.le_refl _, fun _ _ _ => rfl, fun n o hh => .inl ⟨o, hh⟩, hn⟩
def Rho.set (ρ : Rho) (n x : Nat) : Rho := { ρ with a := fun m => if m = n then x else ρ.a m }
theorem Rho.set_agr (ρ : Rho) (n x : Nat) : Agr ρ (ρ.set n x) n (n + 1) := ⟨rfl, rfl, rfl, rfl, rfl, fun m hm => by
  have : m ≠ n := by omega
  simp [Rho.set, this]⟩
theorem Rho.set_a (ρ : Rho) (n x : Nat) : (ρ.set n x).a n = x := by simp [Rho.set]
theorem Move.new (H : HeapR ρ b0 h w) (hn : HNames nx h) (o : SObj) (obj : Obj) (ho : ObjR ρ o obj) (hon : ∀ m ∈ o.names, m < nx) :
    Move ρ (ρ.set nx w.heap.size) b0 h ((nx, o) :: h) nx (nx + 1) w (w.alloc obj) := by
  have g := ρ.set_agr nx w.heap.size
  have hold : ∀ n p, lk h n = some p → (ρ.set nx w.heap.size).a n = ρ.a n := fun n p hp => g.a n (.inl (hn n p hp).1)
  refine ⟨g, by omega, ⟨?_, ?_, ?_, ?_⟩, (by show _ ≤ (w.heap.push obj).size; simp), ?_, ?_, ?_⟩
  · exact ⟨H.g0.os, H.g0.tape, H.g0.output, Nat.le_trans H.g0.size (by show _ ≤ (w.heap.push obj).size; simp), fun k hk hne => by
      rw [heap_alloc_old w obj k (Nat.lt_of_lt_of_le hk H.g0.size)]; exact H.g0.block k hk hne⟩
  · intro n p hp
    rw [lk_cons] at hp
    split at hp
    · rename_i he
      subst he
      cases hp
      exact ⟨obj, by rw [Rho.set_a]; exact heap_alloc_new w obj, ho.agr g (fun m hm => .inl (hon m hm))⟩
    · obtain ⟨ob, h1, h2⟩ := H.at_ n p hp
      exact ⟨ob, by rw [hold n p hp, heap_alloc_old w obj _ (H.lt hp)]; exact h1, h2.agr g (fun m hm => .inl ((hn n p hp).2 m hm))⟩
  · intro n p hp
    rw [lk_cons] at hp
    split at hp
    · rename_i he
      subst he
      rw [Rho.set_a]; exact H.g0.size
    · rw [hold n p hp]; exact H.own n p hp
  · intro n m p q hp hq he
    rw [lk_cons] at hp hq
    split at hp
    · rename_i e1
      subst e1
      split at hq
      · rename_i e2; exact e2
      · rw [Rho.set_a, hold m q hq] at he
        have := H.lt hq
        omega
    · split at hq
      · rename_i e2
        subst e2
        rw [Rho.set_a, hold n p hp] at he
        have := H.lt hp
        omega
      · rw [hold n p hp, hold m q hq] at he
        exact H.inj n m p q hp hq he
  · exact fun k hk _ => heap_alloc_old w obj k hk
  · intro n p hp
    rw [lk_cons] at hp
    split at hp
    · rename_i he
      subst he
      exact .inr ⟨Nat.le_refl _, by omega, .inl (by rw [Rho.set_a]; exact Nat.le_refl _)⟩
    · exact .inl ⟨p, hp⟩
  · intro n p hp
    rw [lk_cons] at hp
    split at hp
    · rename_i he
      subst he
      cases hp
      exact ⟨by omega, fun m hm => Nat.lt_succ_of_lt (hon m hm)⟩
    · exact ⟨Nat.lt_succ_of_lt (hn n p hp).1, fun m hm => Nat.lt_succ_of_lt ((hn n p hp).2 m hm)⟩
/-- The world with another thing in a block. -/
def World.putO (w : World) (k : Nat) (obj : Obj) : World := { w with heap := w.heap.setIfInBounds k obj }
theorem Move.upd (H : HeapR ρ b0 h w) (hn : HNames nx h) {n : Nat} {o : SObj} (hl : lk h n = some o) (o' : SObj) (obj : Obj) (ho : ObjR ρ o' obj) (hon : ∀ m ∈ o'.names, m < nx) :
    Move ρ ρ b0 h (up h n o') nx nx w (World.putO w (ρ.a n) obj) := by
  have hlt := H.lt hl
  have hlk : ∀ m p, lk (up h n o') m = some p → (∃ q, lk h m = some q) ∧ (m = n ∧ p = o' ∨ m ≠ n ∧ lk h m = some p) := by
    intro m p hp
    rw [lk_up] at hp
    split at hp
    · rename_i e; subst e
      simp [hl] at hp
      exact ⟨⟨o, hl⟩, .inl ⟨rfl, hp.symm⟩⟩
    · rename_i e
      exact ⟨⟨p, hp⟩, .inr ⟨Ne.symm e, hp⟩⟩
  refine ⟨.refl _ _ _, Nat.le_refl _, ⟨?_, ?_, ?_, ?_⟩, by simp [World.putO], ?_, ?_, ?_⟩
  · refine ⟨H.g0.os, H.g0.tape, H.g0.output, by simp [World.putO, H.g0.size], fun k hk hne => ?_⟩
    have := H.own n o hl
    rw [← H.g0.block k hk hne]
    simp only [World.putO]
    rw [Array.getElem?_setIfInBounds_ne (by omega)]
  · intro m p hp
    obtain ⟨⟨q, hq⟩, hc⟩ := hlk m p hp
    rcases hc with ⟨rfl, rfl⟩ | ⟨hne, hm⟩
    · exact ⟨obj, by simp [World.putO, hlt], ho⟩
    · obtain ⟨ob, h1, h2⟩ := H.at_ m p hm
      refine ⟨ob, ?_, h2⟩
      have : ρ.a n ≠ ρ.a m := fun e => hne (H.inj n m o p hl hm e).symm
      simp only [World.putO]
      rw [Array.getElem?_setIfInBounds_ne this]; exact h1
  · intro m p hp
    obtain ⟨⟨q, hq⟩, _⟩ := hlk m p hp
    exact H.own m q hq
  · intro m k p q hp hq he
    obtain ⟨⟨p', hp'⟩, _⟩ := hlk m p hp
    obtain ⟨⟨q', hq'⟩, _⟩ := hlk k q hq
    exact H.inj m k p' q' hp' hq' he
  · intro k hk hne
    simp only [World.putO]
    rw [Array.getElem?_setIfInBounds_ne (hne n o hl)]
  · intro m p hp
    exact .inl (hlk m p hp).1
  · intro m p hp
    obtain ⟨⟨q, hq⟩, hc⟩ := hlk m p hp
    refine ⟨(hn m q hq).1, ?_⟩
    rcases hc with ⟨rfl, rfl⟩ | ⟨_, hm⟩
    · exact hon
    · exact (hn m p hm).2
theorem Move.trans {ρ2 : Rho} {ρ1 : Rho} {h1 h2 : SHeap} {n1 n2 : Nat} {w1 w2 : World} (A : Move ρ ρ1 b0 h h1 nx n1 w w1) (B : Move ρ1 ρ2 b0 h1 h2 n1 n2 w1 w2) (hn : HNames nx h) :
    Move ρ ρ2 b0 h h2 nx n2 w w2 := by
  have g : Agr ρ ρ2 nx n2 := ⟨B.agr.i.trans A.agr.i, B.agr.b.trans A.agr.b, B.agr.l.trans A.agr.l, B.agr.v.trans A.agr.v, B.agr.z.trans A.agr.z, fun m hm => by
    have hA := A.le
    have hB := B.le
    rw [B.agr.a m (by omega), A.agr.a m (by omega)]⟩
  refine ⟨g, Nat.le_trans A.le B.le, B.heap, Nat.le_trans A.size B.size, ?_, ?_, B.names⟩
  · intro k hk hne
    rw [B.same k (Nat.lt_of_lt_of_le hk A.size) ?_, A.same k hk hne]
    intro m o hm
    rcases A.dom m o hm with ⟨p, hp⟩ | ⟨_, _, h3 | ⟨q, p, hq, h3⟩⟩
    · rw [A.agr.a m (.inl (hn m p hp).1)]; exact hne m p hp
    · omega
    · rw [h3]; exact hne q p hq
  · intro m o hm
    have old : ∀ k p, lk h1 k = some p → (∃ q, lk h k = some q) ∨ (nx ≤ k ∧ k < n1 ∧ (w.heap.size ≤ ρ1.a k ∨ ∃ m p, lk h m = some p ∧ ρ1.a k = ρ.a m)) := A.dom
    rcases B.dom m o hm with ⟨p, hp⟩ | ⟨c1, c2, c3⟩
    · rcases A.dom m p hp with hq | ⟨a1, a2, a3⟩
      · exact .inl hq
      · refine .inr ⟨a1, Nat.lt_of_lt_of_le a2 B.le, ?_⟩
        rw [B.agr.a m (.inl a2)]; exact a3
    · refine .inr ⟨Nat.le_trans A.le c1, c2, ?_⟩
      rcases c3 with c3 | ⟨k, p, hk, c3⟩
      · exact .inl (Nat.le_trans A.size c3)
      · rcases A.dom k p hk with ⟨q, hq⟩ | ⟨a1, a2, a3⟩
        · exact .inr ⟨k, q, hq, by rw [c3, A.agr.a k (.inl (hn k q hq).1)]⟩
        · rw [c3]; exact a3
end
end Go.Proofs.Ytjgkaimgocnkmab.Sx
