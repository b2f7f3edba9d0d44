/- A reckoner of Go's small steps over letters: what is known of a region's operations, one by one. No condition. -/
import Derived.Test.YthenenacmiiphaaSp11
set_option linter.unusedVariables false
set_option linter.unusedSimpArgs false
set_option linter.deprecated false
namespace Go.Proofs.Ythenenacmiiphaa.Sx
open Go
def all : Nat → Bool := fun _ => true
section
variable {P : Program} {T : Tab} {b0 : World} {sub : Cfg → Out} {ρ : Rho}
structure Fact (P : Program) (b0 : World) (orac : Orc) (ρ : Rho) (ops : Array Oper) (nx0 N : Nat) (es : List Eff) (slI : Nat → Option SV) (hI : Nat → Option SObj) (m j : Nat) (e : Eff) (o : Oper) : Prop where
 loc : Local P b0 orac ρ ops (fun t => stX apS es all j t (slI t)) (fun x => stX apH es all j x (hI x)) (m + j) o e
 dst : e.dst = o.dst
 lo : nx0 ≤ e.lo
 lh : e.lo ≤ e.hi
 hi : e.hi ≤ N
 val : NamesV e.hi e.val
 objs : ∀ x o', (lk e.made x = some o' ∨ lk e.writes x = some o') → ∀ y ∈ o'.names, y < e.hi
 made : ∀ x, (lk e.made x).isSome = true → e.lo ≤ x ∧ x < e.hi
 st : ∀ x o', stX apH es all j x (hI x) = some o' → x < e.lo ∧ ∀ y ∈ o'.names, y < e.lo
 wr : ∀ x, (lk e.writes x).isSome = true → memN x e.touch = true ∧ (stX apH es all j x (hI x)).isSome = true
 gn : ∀ x, memN x e.gone = true → memN x e.touch = true ∧ (stX apH es all j x (hI x)).isSome = true
theorem trace_pc {ops l : List Oper} {ms : List Nat} {i : Nat} {pc pc' : List BE} {sl sl' : Slots} {h h' : SHeap} {nx nx' : Nat} {pj pj' : Option PJ} {effs : List Eff} (hs : SubPc T.orac.F sub) (hP : PostsOk T.orac)
    (ht : Trace T sub ops ms l i pc sl h nx pj effs pc' sl' h' nx' pj') (hp : Holds ρ pc') : Holds ρ pc := by
  induction ht with
  | nil => exact hp
  | dum _ _ ih => exact ih hp
  | skip _ _ ih => exact ih hp
  | run hw ha hl he _ _ ih => exact (aloneP_pc hs hP ha).back ρ _ hl (ih hp)
  | pan hw ha hl he _ _ ih => exact (aloneP_pc hs hP ha).back ρ _ hl (ih hp)
  | more _ ih => exact (ih hp).tail
theorem skip_local {ops : Array Oper} {pc : List BE} {sl : Slots} {h : SHeap} {nx : Nat} {o : Oper} {j : Nat} (hρ : ρ.Ok) (hp : Holds ρ pc) (ho : ops[j]? = some o) (hw : wantedS pc ops.toList sl o = .skip) (orac : Orc) :
  Local P b0 orac ρ ops (get2 sl) (lk h) j o { dst := o.dst, val := .tup [], touch := [], writes := [], gone := [], made := [], lo := nx, hi := nx } := by
 intro ρ1 w1 tm fn k ds r cs rest hsame hl H
 have hw' := (wanted_run (hsame.ok hρ) ((hsame.holds).2 hp) hl).2 hw
 refine ⟨ρ1, w1, .refl _ _ _, ?_, ?_, Nat.le_refl _, fun _ _ _ => rfl, by simp [lk_nil], by simp [memN], by simp [lk_nil], Nat.le_refl _, fun n hn => by simp [SV.names, SV.namesL] at hn, by simp [lk_nil]⟩
 ·rw [endFr_n (by rfl)]
  exact .one (by simpa [SV.den, SV.denL, undef] using st_op_skip (P := P) (fn := fn) (k := k) (ds := ds) (r := r) (cs := cs) (w := w1) ho hw')
 ·refine H.part fun n o' hn => ?_
  simp [memN, apH, lk_nil] at hn
theorem getElem?_drop0 {α : Type} {l : List α} {m : Nat} {x : α} {xs : List α} (h : x :: xs = l.drop m) : l[m]? = some x ∧ xs = l.drop (m + 1) := by
 have h0 : (l.drop m)[0]? = some x := by rw [← h]; rfl
 refine ⟨by simpa using h0, ?_⟩
 have : (l.drop m).tail = xs := by rw [← h]; rfl
 rw [← this]; simp
theorem stX_all {V : Type} (ap : Eff → Nat → Option V → Option V) (e : Eff) (es : List Eff) (m x : Nat) (v : Option V) : stX ap (e :: es) all (m + 1) x v = stX ap es all m x (ap e x v) := rfl
theorem stX_zero {V : Type} (ap : Eff → Nat → Option V → Option V) (es : List Eff) (D : Nat → Bool) (x : Nat) (v : Option V) : stX ap es D 0 x v = v := by cases es <;> rfl
structure Dum (e : Eff) : Prop where
 dst : e.dst = none
 made : e.made = []
 writes : e.writes = []
 gone : e.gone = []
theorem dum_no (n : Nat) : Dum (noEff n) := ⟨rfl, rfl, rfl, rfl⟩
theorem Dum.S {e : Eff} (h : Dum e) (t : Nat) : ¬ WS e t := by
 intro hw; unfold WS at hw; rw [h.dst] at hw; cases hw
theorem Dum.H {e : Eff} (h : Dum e) (x : Nat) : ¬ WH e x := by
 intro hw; unfold WH at hw; rw [h.made, h.writes, h.gone] at hw; simp [lk_nil, memN] at hw
structure Concl (P : Program) (b0 : World) (orac : Orc) (ρ : Rho) (ops : Array Oper) (ms : List Nat) (m len : Nat) (sl : Slots) (h : SHeap) (nx : Nat) (pj : Option PJ) (effs : List Eff) (sl' : Slots) (h' : SHeap) (nx' : Nat) (pj' : Option PJ) : Prop where
 le : nx ≤ nx'
 hn : HNames nx' h'
 sn : SNames nx' sl'
 len : effs.length = len
 slots : ∀ t, get2 sl' t = stX apS effs all effs.length t (get2 sl t)
 heap : ∀ x, lk h' x = stX apH effs all effs.length x (lk h x)
 facts : ∀ j e, effs[j]? = some e → (Dum e ∧ ∃ q, pj' = some q ∧ (q.j = m + j ∨ bitOf ((nth ms (m + j)).getD 0) q.j = true)) ∨ ∃ o, ops[m + j]? = some o ∧ Fact P b0 orac ρ ops nx nx' effs (get2 sl) (lk h) m j e o ∧ panV e.val = none
 bnds : ∀ (j : Nat) (e : Eff), effs[j]? = some e → nx ≤ e.lo ∧ e.lo ≤ e.hi ∧ e.hi ≤ nx'
 order : ∀ (i j : Nat) (a b : Eff), i < j → effs[i]? = some a → effs[j]? = some b → a.hi ≤ b.lo
 keep : ∀ q, pj = some q → pj' = some q
 pan : ∀ q, pj' = some q → pj = some q ∨ ∃ j o, q.j = m + j ∧ ops[m + j]? = some o ∧ Fact P b0 orac ρ ops nx nx' effs (get2 sl) (lk h) m j q.e o ∧ panV q.e.val = some q.v ∧
  (∀ i a, effs[i]? = some a → (i < j → a.hi ≤ q.e.lo) ∧ (j < i → q.e.hi ≤ a.lo)) ∧ ∃ d, effs[j]? = some d ∧ Dum d
theorem Fact.up {orac : Orc} {ops : Array Oper} {m j N nx nxn : Nat} {sl sl' : Slots} {h h' : SHeap} {effs : List Eff} {E e : Eff} {o : Oper} (hS : ∀ t, get2 sl' t = apS E t (get2 sl t)) (hH : ∀ x, lk h' x = apH E x (lk h x)) (hle : nx ≤ nxn)
  (hf : Fact P b0 orac ρ ops nxn N effs (get2 sl') (lk h') (m + 1) j e o) : Fact P b0 orac ρ ops nx N (E :: effs) (get2 sl) (lk h) m (j + 1) e o := by
 refine ⟨?_, hf.dst, Nat.le_trans hle hf.lo, hf.lh, hf.hi, hf.val, hf.objs, hf.made, ?_, ?_, ?_⟩
 ·have := hf.loc
  rw [show m + 1 + j = m + (j + 1) by omega] at this
  simp only [hS, hH] at this
  simp only [stX_all]
  exact this
 ·intro x o2 hx
  refine hf.st x o2 ?_
  rw [hH x]
  rw [stX_all] at hx
  exact hx
 ·intro x hx
  have := hf.wr x hx
  rw [hH x] at this
  rw [stX_all]
  exact this
 ·intro x hx
  have := hf.gn x hx
  rw [hH x] at this
  rw [stX_all]
  exact this
theorem fact_0 {orac : Orc} {ops : Array Oper} {m N nx nxn : Nat} {sl : Slots} {h : SHeap} {E : Eff} {o : Oper} {v : SV}
  (hloc : Local P b0 orac ρ ops (get2 sl) (lk h) m o E) (e1 : E.dst = o.dst) (e2 : E.val = v) (e3 : E.lo = nx) (e4 : E.hi = nxn)
  (hd : Dom N sl) (hv : ∃ ρv wv, Same ρ ρv ∧ HeapR ρv b0 h wv) (hnm : HNames nx h) :
  nx ≤ nxn ∧ NamesV nxn v ∧ (∀ effs N', nxn ≤ N' → Fact P b0 orac ρ ops nx N' effs (get2 sl) (lk h) m 0 E o) ∧
  ∃ ρ' w', Same ρ ρ' ∧ HeapF ρ' b0 (fun x => apH E x (lk h x)) w' ∧ ∀ x o', apH E x (lk h x) = some o' → x < nxn ∧ ∀ y ∈ o'.names, y < nxn := by
 obtain ⟨ρv, wv, hsame, Hv⟩ := hv
 obtain ⟨X, hX⟩ := hd.arr ρv
 have hnxlo : ∀ x o', lk h x = some o' → (x < E.lo ∨ E.hi ≤ x) ∧ (memN x E.touch = true ∨ ∀ y ∈ o'.names, y < E.lo ∨ E.hi ≤ y) := by
  intro x o' hx
  rw [e3]
  exact ⟨.inl (hnm x o' hx).1, .inr fun y hy => .inl ((hnm x o' hx).2 y hy)⟩
 obtain ⟨ρ', w', g, _, H2, hsz, hsm, hmd, hgn, hwr, hle, hnv, hob⟩ := hloc ρv wv X 0 [] [] ⟨none, .normal⟩ [] [] hsame (fun t _ => hX t) (Hv.part fun n o' hn' => by
  split at hn'
  ·exact hn'
  ·cases hn')
 have Hm := merge (L := lk h) Hv g H2 hnxlo hmd (fun x hx => (hgn x hx).1) hwr hsz hsm
 refine ⟨by omega, by rw [← e2, ← e4]; exact hnv, ?_, ρ', w', hsame.trans g.same, Hm, ?_⟩
 ·intro effs N' hN
  refine ⟨?_, e1, by rw [e3]; exact Nat.le_refl _, hle, by rw [e4]; exact hN, hnv, hob, fun x hx => ⟨(hmd x hx).1, (hmd x hx).2.1⟩, ?_, ?_, ?_⟩
  ·simp only [stX_zero, Nat.add_zero]; exact hloc
  ·intro x o' hx
   rw [e3]
   rw [stX_zero] at hx
   exact hnm x o' hx
  ·intro x hx
   rw [stX_zero]
   exact hwr x hx
  ·intro x hx
   rw [stX_zero]
   exact hgn x hx
 ·intro x o' hx
  rw [← e4]
  unfold apH at hx
  cases h1 : lk E.made x with
  | some q =>
   simp only [h1] at hx
   cases hx
   exact ⟨(hmd x (by simp [h1])).2.1, hob x _ (.inl h1)⟩
  | none =>
   simp only [h1] at hx
   cases h2 : lk E.writes x with
   | some q =>
    simp only [h2] at hx
    cases hx
    obtain ⟨_, hs2⟩ := hwr x (by simp [h2])
    obtain ⟨q2, hq2⟩ := Option.isSome_iff_exists.1 hs2
    exact ⟨Nat.lt_of_lt_of_le (hnm x q2 hq2).1 (by omega), hob x _ (.inr h2)⟩
   | none =>
    simp only [h2] at hx
    split at hx
    ·cases hx
    obtain ⟨b1, b2⟩ := hnm x o' hx
    exact ⟨by omega, fun y hy => Nat.lt_of_lt_of_le (b2 y hy) (by omega)⟩
theorem cons_facts {orac : Orc} {ops : Array Oper} {ms : List Nat} {m len N nx nxn nx' : Nat} {sl sl' : Slots} {h hn h' : SHeap} {pj pj' : Option PJ} {effs : List Eff} {E : Eff} {o : Oper} {v : SV} (ho : ops[m]? = some o)
  (hloc : Local P b0 orac ρ ops (get2 sl) (lk h) m o E) (e1 : E.dst = o.dst) (e2 : E.val = v) (e3 : E.lo = nx) (e4 : E.hi = nxn) (e6 : ∀ x, lk hn x = apH E x (lk h x)) (hcv : panV v = none)
  (hd : Dom N sl) (hv : ∃ ρv wv, Same ρ ρv ∧ HeapR ρv b0 h wv) (hnm : HNames nx h) (hsn : SNames nx sl)
  (ih : Dom N (putD sl o.dst v) → (∃ ρv wv, Same ρ ρv ∧ HeapR ρv b0 hn wv) → HNames nxn hn → SNames nxn (putD sl o.dst v) → Concl P b0 orac ρ ops ms (m + 1) len (putD sl o.dst v) hn nxn pj effs sl' h' nx' pj') :
  Concl P b0 orac ρ ops ms m (len + 1) sl h nx pj (E :: effs) sl' h' nx' pj' := by
 have hdst : ∀ t, get2 (putD sl o.dst v) t = apS E t (get2 sl t) := fun t => get2_putD sl o _ E e1 e2 t
 obtain ⟨hnxle, hnv, hf0, ρ', w', hsame, Hm, hnames⟩ := fact_0 hloc e1 e2 e3 e4 hd hv hnm
 have Hn : HeapR ρ' b0 hn w' := Hm.part fun n o' hn' => by rw [← e6 n]; exact hn'
 have C := ih (hd.put _ _) ⟨ρ', w', hsame, Hn⟩ (fun x o' hx => hnames x o' (by rw [← e6 x]; exact hx)) ((hsn.le hnxle).putD _ hnv)
 refine ⟨Nat.le_trans hnxle C.le, C.hn, C.sn, by simp [C.len], ?_, ?_, ?_, ?_, ?_, C.keep, ?_⟩
 ·intro t; rw [C.slots t, hdst t]; rfl
 ·intro x; rw [C.heap x, e6 x]; rfl
 ·intro j e he
  cases j with
  | zero =>
   simp at he
   subst he
   exact .inr ⟨o, by simpa using ho, hf0 _ _ C.le, by rw [e2]; exact hcv⟩
  | succ j =>
   rcases C.facts j e (by simpa using he) with ⟨hdm, q, q1, q2⟩ | ⟨o', ho', hf, hc⟩
   ·exact .inl ⟨hdm, q, q1, by rw [show m + (j + 1) = m + 1 + j by omega]; exact q2⟩
   ·exact .inr ⟨o', by rw [← ho']; congr 1; omega, hf.up hdst e6 hnxle, hc⟩
 ·intro j e he
  cases j with
  | zero =>
   simp at he
   subst he
   exact ⟨by omega, by omega, by rw [e4]; exact C.le⟩
  | succ j =>
   obtain ⟨h1, h2, h3⟩ := C.bnds j e (by simpa using he)
   exact ⟨Nat.le_trans hnxle h1, h2, h3⟩
 ·intro i j a b hij ha' hb
  cases j with
  | zero => omega
  | succ j =>
   cases i with
   | zero =>
    simp at ha'
    subst ha'
    rw [e4]; exact (C.bnds j b (by simpa using hb)).1
   | succ i => exact C.order i j a b (by omega) (by simpa using ha') (by simpa using hb)
 ·intro q hq
  rcases C.pan q hq with h1 | ⟨j, o', h1, h2, h3, h4, h5, d, h6, h7⟩
  ·exact .inl h1
  ·refine .inr ⟨j + 1, o', by omega, by rw [← h2]; congr 1; omega, h3.up hdst e6 hnxle, h4, ?_, d, by simpa using h6, h7⟩
   intro i a ha
   cases i with
   | zero =>
    simp at ha
    subst ha
    refine ⟨fun _ => ?_, fun h => by omega⟩
    rw [e4]; exact h3.lo
   | succ i =>
    obtain ⟨k1, k2⟩ := h5 i a (by simpa using ha)
    exact ⟨fun h => k1 (by omega), fun h => k2 (by omega)⟩
theorem dum_facts {orac : Orc} {ops : Array Oper} {ms : List Nat} {m len nx nxn nx' : Nat} {sl sl' : Slots} {h h' : SHeap} {pj0 pj pj' : Option PJ} {effs : List Eff} (hle : nx ≤ nxn)
  (C : Concl P b0 orac ρ ops ms (m + 1) len sl h nxn pj effs sl' h' nx' pj') (hk : ∀ q, pj0 = some q → pj = some q) (hq : ∃ q, pj = some q ∧ (q.j = m ∨ bitOf ((nth ms m).getD 0) q.j = true))
  (hp : pj0 = pj ∨ ∃ q o, pj0 = none ∧ pj = some q ∧ q.j = m ∧ ops[m]? = some o ∧ q.e.lo = nx ∧ q.e.hi = nxn ∧ (∀ effs N', nxn ≤ N' → Fact P b0 orac ρ ops nx N' effs (get2 sl) (lk h) m 0 q.e o) ∧ panV q.e.val = some q.v) :
  Concl P b0 orac ρ ops ms m (len + 1) sl h nx pj0 (noEff nxn :: effs) sl' h' nx' pj' := by
 have hS : ∀ t, get2 sl t = apS (noEff nxn) t (get2 sl t) := fun t => (apS_id ((dum_no nxn).S t) _).symm
 have hH : ∀ x, lk h x = apH (noEff nxn) x (lk h x) := fun x => (apH_id ((dum_no nxn).H x) _).symm
 obtain ⟨q0, hq1, hq2⟩ := hq
 refine ⟨Nat.le_trans hle C.le, C.hn, C.sn, by simp [C.len], ?_, ?_, ?_, ?_, ?_, fun q h => C.keep q (hk q h), ?_⟩
 ·intro t
  rw [List.length_cons, stX_all, ← hS t]; exact C.slots t
 ·intro x
  rw [List.length_cons, stX_all, ← hH x]; exact C.heap x
 ·intro j e he
  cases j with
  | zero =>
   simp at he
   subst he
   exact .inl ⟨dum_no _, q0, C.keep q0 hq1, by simpa using hq2⟩
  | succ j =>
   rcases C.facts j e (by simpa using he) with ⟨hdm, q, q1, q2⟩ | ⟨o', ho', hf, hc⟩
   ·exact .inl ⟨hdm, q, q1, by rw [show m + (j + 1) = m + 1 + j by omega]; exact q2⟩
   ·exact .inr ⟨o', by rw [← ho']; congr 1; omega, hf.up hS hH hle, hc⟩
 ·intro j e he
  cases j with
  | zero =>
   simp at he
   subst he
   exact ⟨hle, Nat.le_refl _, C.le⟩
  | succ j =>
   obtain ⟨h1, h2, h3⟩ := C.bnds j e (by simpa using he)
   exact ⟨Nat.le_trans hle h1, h2, h3⟩
 ·intro i j a b hij ha' hb
  cases j with
  | zero => omega
  | succ j =>
   cases i with
   | zero =>
    simp at ha'
    subst ha'
    exact (C.bnds j b (by simpa using hb)).1
   | succ i => exact C.order i j a b (by omega) (by simpa using ha') (by simpa using hb)
 ·intro q hqq
  rcases C.pan q hqq with h1 | ⟨j, o', h1, h2, h3, h4, h5, d, h6, h7⟩
  ·rcases hp with hp | ⟨q', o, p1, p2, p3, p4, p5, p6, p7, p8⟩
   ·exact .inl (hp.trans h1)
   ·rw [p2] at h1
    cases h1
    refine .inr ⟨0, o, p3, p4, p7 _ _ C.le, p8, ?_, _, rfl, dum_no _⟩
    intro i a ha
    cases i with
    | zero => exact ⟨fun h => by omega, fun h => by omega⟩
    | succ i =>
     refine ⟨fun h => by omega, fun _ => ?_⟩
     rw [p6]; exact (C.bnds i a (by simpa using ha)).1
  ·refine .inr ⟨j + 1, o', by omega, by rw [← h2]; congr 1; omega, h3.up hS hH hle, h4, ?_, d, by simpa using h6, h7⟩
   intro i a ha
   cases i with
   | zero =>
    simp at ha
    subst ha
    exact ⟨fun _ => h3.lo, fun h => by omega⟩
   | succ i =>
    obtain ⟨k1, k2⟩ := h5 i a (by simpa using ha)
    exact ⟨fun h => k1 (by omega), fun h => k2 (by omega)⟩
theorem trace_facts (hT : T.Ok P) (hs : SubOk P b0 T.orac sub) (hρ : ρ.Ok) (hO : OracOk P b0 T.orac ρ) {ops : Array Oper} {ms : List Nat} (hpl : ∀ o ∈ ops.toList, plainOp o = true)
    {l : List Oper} {i : Nat} {pc pc' : List BE} {sl sl' : Slots} {h h' : SHeap} {nx nx' : Nat} {pj pj' : Option PJ} {effs : List Eff}
    (ht : Trace T sub ops.toList ms l i pc sl h nx pj effs pc' sl' h' nx' pj') (hp : Holds ρ pc') : ∀ (N : Nat) (rs : List Oper), l ++ rs = ops.toList.drop i → Dom N sl →
    (∃ ρv wv, Same ρ ρv ∧ HeapR ρv b0 h wv) → HNames nx h → SNames nx sl → Concl P b0 T.orac ρ ops ms i l.length sl h nx pj effs sl' h' nx' pj' := by
  have hsp : SubPc T.orac.F sub := fun C ls h => (hs C ls h).1
  induction ht with
  | nil =>
    intro N rs hl hd hv hn hsn
    exact ⟨Nat.le_refl _, hn, hsn, rfl, fun t => rfl, fun x => rfl, by simp, by simp, by simp, fun q h => h, fun q h => .inl h⟩
  | more _ ih => exact ih hp
  | @dum o l i pc sl h nx pj effs pc' sl' h' nx' pj' hb htr ih =>
    intro N rs hl hd hv hn hsn
    obtain ⟨ho, hl'⟩ := getElem?_drop0 (x := o) (xs := l ++ rs) hl
    have C := ih hp N rs hl' hd hv hn hsn
    refine dum_facts (Nat.le_refl _) C (fun q h => h) ?_ (.inl rfl)
    unfold behindP at hb
    cases pj with
    | none => cases hb
    | some q => exact ⟨q, rfl, .inr hb⟩
  | @skip o l i pc sl h nx pj effs pc' sl' h' nx' pj' hw htr ih =>
    intro N rs hl hd hv hn hsn
    obtain ⟨ho, hl'⟩ := getElem?_drop0 (x := o) (xs := l ++ rs) hl
    rw [Array.getElem?_toList] at ho
    have hpc := trace_pc (ρ := ρ) hsp hT.posts htr hp
    exact cons_facts (v := .tup []) ho (skip_local (P := P) (b0 := b0) (h := h) (nx := nx) hρ hpc ho hw T.orac) rfl rfl rfl rfl (fun x => by simp [apH, lk_nil, memN]) rfl hd hv hn hsn (fun a b c d => ih hp N rs hl' a b c d)
  | @run o l i pc sl h nx pj effs pc' sl' h' nx' pj' F ls lf E hw ha hlf he hcv htr ih =>
    intro N rs hl hd hv hn hsn
    obtain ⟨ho, hl'⟩ := getElem?_drop0 (x := o) (xs := l ++ rs) hl
    rw [Array.getElem?_toList] at ho
    have hpl0 : plainOp o = true := hpl o (by
      have h0 : o ∈ ops.toList.drop i := by rw [← hl]; exact List.mem_append_left _ (List.mem_cons_self ..)
      exact List.mem_of_mem_drop h0)
    have hpcn := trace_pc (ρ := ρ) hsp hT.posts htr hp
    have hpc := (aloneP_pc hsp hT.posts ha).back ρ _ hlf hpcn
    obtain ⟨hloc, e1, e2, e3, e4, e5, e6⟩ := loc_run hT hs hρ hO hpc hn hsn hd ho hpl0 hw ha hlf hpcn he
    exact cons_facts ho hloc e1 e2 e3 e4 e6 hcv hd hv hn hsn (fun a b c d => ih hp N rs hl' a b c d)
  | @pan o l i pc sl h nx effs pc' sl' h' nx' pj' F ls lf E v hw ha hlf he hpv htr ih =>
    intro N rs hl hd hv hn hsn
    obtain ⟨ho, hl'⟩ := getElem?_drop0 (x := o) (xs := l ++ rs) hl
    rw [Array.getElem?_toList] at ho
    have hpl0 : plainOp o = true := hpl o (by
      have h0 : o ∈ ops.toList.drop i := by rw [← hl]; exact List.mem_append_left _ (List.mem_cons_self ..)
      exact List.mem_of_mem_drop h0)
    have hpcn := trace_pc (ρ := ρ) hsp hT.posts htr hp
    have hpc := (aloneP_pc hsp hT.posts ha).back ρ _ hlf hpcn
    obtain ⟨hloc, e1, e2, e3, e4, e5, e6⟩ := loc_run hT hs hρ hO hpc hn hsn hd ho hpl0 hw ha hlf hpcn he
    obtain ⟨hnxle, _, hf0, _⟩ := fact_0 hloc e1 e2 e3 e4 hd hv hn
    have C := ih hp N rs hl' hd hv (fun x o' hx => ⟨Nat.lt_of_lt_of_le (hn x o' hx).1 hnxle, fun y hy => Nat.lt_of_lt_of_le ((hn x o' hx).2 y hy) hnxle⟩) (hsn.le hnxle)
    exact dum_facts hnxle C (fun q h => by cases h) ⟨_, rfl, .inl rfl⟩ (.inr ⟨_, o, rfl, rfl, rfl, ho, e3, e4, hf0, by rw [e2]; exact hpv⟩)
end
end Go.Proofs.Ythenenacmiiphaa.Sx
namespace Go.Proofs.Ythenenacmiiphaa.Sx
open Go
theorem bitOf_eq (m i : Nat) : bitOf m i = m.testBit i := by
 unfold bitOf Nat.testBit
 show Nat.beq ((m >>> i) &&& 1) 1 = (1 &&& m >>> i != 0)
 rw [Nat.and_comm 1]
 have : (m >>> i) &&& 1 = (m >>> i) % 2 := Nat.and_one_is_mod _
 rw [this]
 rcases Nat.mod_two_eq_zero_or_one (m >>> i) with h | h <;> rw [h] <;> rfl
theorem bindsA_eq (e : Edge) : bindsA e = Region.binds .any e := by
 unfold bindsA Region.binds
 cases e.ground <;> rfl
theorem maskOf_bit (bef : List Nat) (i : Nat) : ∀ (l : List Edge), bitOf (maskOf bef l) i = true → ∃ e ∈ l, bindsA e = true ∧ (i = e.on ∨ bitOf ((nth bef e.on).getD 0) i = true) := by
  intro l
  induction l with
  | nil => intro h; rw [bitOf_eq] at h; simp [maskOf] at h
  | cons e l ih =>
    intro h
    simp only [maskOf] at h
    split at h
    · rename_i hb
      rw [bitOf_eq] at h
      rw [show Nat.lor (Nat.lor (Nat.shiftLeft 1 e.on) ((nth bef e.on).getD 0)) (maskOf bef l) = ((1 <<< e.on) ||| ((nth bef e.on).getD 0)) ||| (maskOf bef l) from rfl] at h
      rw [Nat.testBit_or, Nat.testBit_or, Bool.or_eq_true, Bool.or_eq_true] at h
      rcases h with (h | h) | h
      · refine ⟨e, by simp, hb, .inl ?_⟩
        rw [Nat.one_shiftLeft, Nat.testBit_two_pow] at h
        exact (show e.on = i by simpa using h).symm
      · exact ⟨e, by simp, hb, .inr (by rw [bitOf_eq]; exact h)⟩
      · obtain ⟨e', h1, h2⟩ := ih (by rw [bitOf_eq]; exact h)
        exact ⟨e', by simp [h1], h2⟩
    · obtain ⟨e', h1, h2⟩ := ih h
      exact ⟨e', by simp [h1], h2⟩
theorem masks_ok (l : List Oper) : ∀ (bef : List Nat), ∃ ms, masks l bef = bef ++ ms ∧ ms.length = l.length ∧ ∀ j o, l[j]? = some o → ms[j]? = some (maskOf (bef ++ ms.take j) o.after.toList) := by
  induction l with
  | nil => intro bef; exact ⟨[], by simp [masks], rfl, by simp⟩
  | cons o l ih =>
    intro bef
    simp only [masks, fnat_eq]
    obtain ⟨ms, h1, h2, h3⟩ := ih (bef ++ [maskOf bef o.after.toList])
    refine ⟨maskOf bef o.after.toList :: ms, by rw [h1]; simp, by simp [h2], ?_⟩
    intro j o' ho
    cases j with
    | zero => simp at ho; subst ho; simp
    | succ j =>
      have := h3 j o' (by simpa using ho)
      simpa using this
section
variable {ops : Array Oper}
noncomputable def msk (ops : Array Oper) (j : Nat) : Nat := (nth (masks ops.toList []) j).getD 0
theorem edgesAt_ok (i : Nat) (l : List Edge) (h : edgesAt i l = true) : ∀ e ∈ l, bindsA e = true → e.on < i := by
  induction l with
  | nil => simp
  | cons e l ih =>
    simp only [edgesAt] at h
    intro e' he hb
    split at h
    · split at h
      · rename_i h1 h2
        rcases List.mem_cons.1 he with rfl | he
        · simpa using h2
        · exact ih h e' he hb
      · cases h
    · rename_i h1
      rcases List.mem_cons.1 he with rfl | he
      · exact absurd hb h1
      · exact ih h e' he hb
theorem edgesOk_ok (l : List Oper) : ∀ (i : Nat), edgesOk l i = true → ∀ j o, l[j]? = some o → ∀ e ∈ o.after.toList, bindsA e = true → e.on < i + j := by
  induction l with
  | nil => simp
  | cons o l ih =>
    intro i h j o' ho e he hb
    simp only [edgesOk] at h
    split at h
    · rename_i h1
      cases j with
      | zero => simp at ho; subst ho; exact edgesAt_ok i _ h1 e he hb
      | succ j =>
        have := ih (i + 1) h j o' (by simpa using ho) e he hb
        omega
    · cases h
theorem allPlain_ok (l : List Oper) (h : allPlain l = true) : ∀ o ∈ l, plainOp o = true := by
  induction l with
  | nil => simp
  | cons o l ih =>
    simp only [allPlain] at h
    split at h
    · rename_i h1
      intro o' ho
      rcases List.mem_cons.1 ho with rfl | ho
      · exact h1
      · exact ih h o' ho
    · cases h
theorem msk_bit (hE : edgesOk ops.toList 0 = true) {j : Nat} {o : Oper} (ho : ops[j]? = some o) {i : Nat} (h : bitOf (msk ops j) i = true) : ∃ e ∈ o.after.toList, bindsA e = true ∧ e.on < j ∧ (i = e.on ∨ bitOf (msk ops e.on) i = true) := by
 obtain ⟨ms, h1, h2, h3⟩ := masks_ok ops.toList []
 unfold msk at h ⊢
 rw [h1, List.nil_append] at h ⊢
 have hj := h3 j o (by simpa using ho)
 rw [nth_eq, hj, List.nil_append] at h
 obtain ⟨e, a1, a2, a3⟩ := maskOf_bit _ _ _ h
 have hlt := edgesOk_ok _ 0 hE j o (by simpa using ho) e a1 a2
 refine ⟨e, a1, a2, by omega, ?_⟩
 rcases a3 with a3 | a3
 ·exact .inl a3
 ·refine .inr ?_
  rw [nth_eq, List.getElem?_take, if_pos (by omega)] at a3
  rw [nth_eq]; exact a3
theorem msk_done (hE : edgesOk ops.toList 0 = true) {D : Nat → Bool} (hD : ∀ j o, D j = true → ops[j]? = some o → ∀ e ∈ o.after.toList, bindsA e = true → D e.on = true) (hin : ∀ j, D j = true → j < ops.size) :
    ∀ (j : Nat) (o : Oper), ops[j]? = some o → (∀ e ∈ o.after.toList, bindsA e = true → D e.on = true) → ∀ i, bitOf (msk ops j) i = true → D i = true := by
  intro j
  induction j using Nat.strongRecOn with
  | _ j ih =>
    intro o ho hr i hi
    obtain ⟨e, h1, h2, h3, h4⟩ := msk_bit hE ho hi
    have hd := hr e h1 h2
    rcases h4 with rfl | h4
    · exact hd
    · have hlt := hin _ hd
      exact ih e.on h3 ops[e.on] (by simp [hlt]) (fun e' he' hb' => hD e.on _ hd (by simp [hlt]) e' he' hb') i h4
theorem pairsAt_ok (ms : List Nat) (oi : Oper) (i : Nat) (l : List Oper) : ∀ (j0 : Nat), pairsAt ops ms oi i l j0 = true → ∀ j oj, l[j]? = some oj → bitOf ((nth ms (j0 + j)).getD 0) i = true ∨ Oper.apart ops oi oj = true := by
  induction l with
  | nil => simp
  | cons o l ih =>
    intro j0 h j oj ho
    simp only [pairsAt] at h
    cases j with
    | zero =>
      simp at ho; subst ho
      split at h
      · rename_i h1; exact .inl (by simpa using h1)
      · split at h
        · rename_i h1; exact .inr h1
        · cases h
    | succ j =>
      have hr : pairsAt ops ms oi i l (j0 + 1) = true := by
        split at h
        · exact h
        · split at h
          · exact h
          · cases h
      have := ih (j0 + 1) hr j oj (by simpa using ho)
      rwa [show j0 + 1 + j = j0 + (j + 1) by omega] at this
theorem pairsOk_ok (ms : List Nat) (l : List Oper) : ∀ (i0 : Nat), pairsOk ops ms l i0 = true → ∀ i j oi oj, i < j → l[i]? = some oi → l[j]? = some oj → bitOf ((nth ms (i0 + j)).getD 0) (i0 + i) = true ∨ Oper.apart ops oi oj = true := by
  induction l with
  | nil => simp
  | cons o l ih =>
    intro i0 h i j oi oj hij hi hj
    simp only [pairsOk] at h
    split at h
    · rename_i h1
      cases j with
      | zero => omega
      | succ j =>
        cases i with
        | zero =>
          simp at hi; subst hi
          have := pairsAt_ok ms o i0 l (i0 + 1) h1 j oj (by simpa using hj)
          rwa [show i0 + 1 + j = i0 + (j + 1) by omega] at this
        | succ i =>
          have := ih (i0 + 1) h i j oi oj (by omega) (by simpa using hi) (by simpa using hj)
          rwa [show i0 + 1 + j = i0 + (j + 1) by omega, show i0 + 1 + i = i0 + (i + 1) by omega] at this
    · cases h
theorem slotsOk_ok (h : slotsOk ops = true) : edgesOk ops.toList 0 = true ∧ (∀ o ∈ ops.toList, plainOp o = true) ∧
  (∀ i j oi oj, i < j → ops[i]? = some oi → ops[j]? = some oj → bitOf (msk ops j) i = true ∨ Oper.apart ops oi oj = true) := by
 unfold slotsOk at h
 split at h
 ·rename_i h1
  split at h
  ·rename_i h2
   rw [fL_eq] at h
   refine ⟨h1, allPlain_ok _ h2, ?_⟩
   intro i j oi oj hij hi hj
   have := pairsOk_ok (ops := ops) _ _ 0 h i j oi oj hij (by simpa using hi) (by simpa using hj)
   simpa [msk] using this
  ·cases h
 ·cases h
theorem disj_ok (a b : List Nat) (h : disj a b = true) : ∀ n ∈ a, memN n b = false := by
  induction a with
  | nil => simp
  | cons x a ih =>
    simp only [disj] at h
    split at h
    · cases h
    · rename_i h1
      intro n hn
      rcases List.mem_cons.1 hn with rfl | hn
      · simpa using h1
      · exact ih h n hn
theorem freshIn_ok (lo hi : Nat) (l : List Nat) (h : freshIn lo hi l = true) : ∀ n ∈ l, ¬ (lo ≤ n ∧ n < hi) := by
  induction l with
  | nil => simp
  | cons x l ih =>
    simp only [freshIn] at h
    intro n hn
    rcases List.mem_cons.1 hn with rfl | hn
    · split at h
      · split at h
        · cases h
        · rename_i h1 h2; rintro ⟨_, h3⟩; exact h2 (by simpa using h3)
      · rename_i h1; rintro ⟨h3, _⟩; exact h1 (Nat.ble_eq_true_of_le h3)
    · refine ih ?_ n hn
      split at h
      · split at h
        · cases h
        · exact h
      · exact h
theorem mem_objsNames {h : SHeap} {n : Nat} {o : SObj} (hm : (n, o) ∈ h) : n ∈ objsNames h ∧ ∀ y ∈ o.names, y ∈ objsNames h := by
  induction h with
  | nil => simp at hm
  | cons p h ih =>
    obtain ⟨k, q⟩ := p
    simp only [objsNames, List.mem_cons, List.mem_append]
    rcases List.mem_cons.1 hm with e | hm
    · cases e; exact ⟨.inl rfl, fun y hy => .inr (.inl hy)⟩
    · obtain ⟨a, b⟩ := ih hm
      exact ⟨.inr (.inr a), fun y hy => .inr (.inr (b y hy))⟩
structure Free (i j : Eff) : Prop where
 wr : ∀ x, (lk i.writes x).isSome = true → memN x j.touch = false
 gn : ∀ x, memN x i.gone = true → memN x j.touch = false
 touch : ∀ n, i.lo ≤ n → n < i.hi → memN n j.touch = false
 val : ∀ n, i.lo ≤ n → n < i.hi → n ∉ j.val.names
 objs : ∀ n, i.lo ≤ n → n < i.hi → ∀ x o, (lk j.writes x = some o ∨ lk j.made x = some o) → n ∉ o.names
theorem minds_ok {i j : Eff} (h : minds i j = true) : Free i j := by
 unfold minds at h
 split at h
 ·rename_i h1
  have hw : ∀ x, (lk i.writes x).isSome = true → memN x j.touch = false := by
   intro x hx
   obtain ⟨o, ho⟩ := Option.isSome_iff_exists.1 hx
   exact disj_ok _ _ h1 x (List.mem_append.2 (.inr (List.mem_map.2 ⟨(x, o), lk_mem ho, rfl⟩)))
  have hg : ∀ x, memN x i.gone = true → memN x j.touch = false := by
   intro x hx
   exact disj_ok _ _ h1 x (List.mem_append.2 (.inl ((memN_iff _ _).1 hx)))
  split at h
  ·rename_i h2
   have : i.lo = i.hi := by simpa using h2
   exact ⟨hw, hg, fun n a b => by omega, fun n a b => by omega, fun n a b => by omega⟩
  ·have h345 : freshIn i.lo i.hi j.touch = true ∧ freshIn i.lo i.hi j.val.names = true ∧ freshIn i.lo i.hi (objsNames j.writes) = true ∧ freshIn i.lo i.hi (objsNames j.made) = true := by
    revert h
    cases freshIn i.lo i.hi j.touch <;> cases freshIn i.lo i.hi j.val.names <;> cases freshIn i.lo i.hi (objsNames j.writes) <;> cases freshIn i.lo i.hi (objsNames j.made) <;> simp
   obtain ⟨h4, h3, h5, h6⟩ := h345
   refine ⟨hw, hg, ?_, ?_, ?_⟩
   ·intro n a b
    cases hm : memN n j.touch with
    | false => rfl
    | true => exact absurd ⟨a, b⟩ (freshIn_ok _ _ _ h4 n ((memN_iff _ _).1 hm))
   ·intro n a b hn
    exact freshIn_ok _ _ _ h3 n hn ⟨a, b⟩
   ·intro n a b x o hx hn
    rcases hx with hx | hx
    ·exact freshIn_ok _ _ _ h5 n ((mem_objsNames (lk_mem hx)).2 n hn) ⟨a, b⟩
    ·exact freshIn_ok _ _ _ h6 n ((mem_objsNames (lk_mem hx)).2 n hn) ⟨a, b⟩
 ·cases h
theorem against_ok (i : Eff) (ii bi : Nat) (ms : List Nat) (l : List Eff) : ∀ (k : Nat), against i ii bi ms l k = true → ∀ j e, l[j]? = some e → k + j ≠ ii → bitOf bi (k + j) = true ∨ bitOf ((nth ms (k + j)).getD 0) ii = true ∨ Free i e := by
  induction l with
  | nil => simp
  | cons a l ih =>
    intro k h j e he hne
    simp only [against] at h
    cases j with
    | zero =>
      simp at he; subst he
      simp only [Nat.add_zero] at hne ⊢
      split at h
      · rename_i h1; exact absurd (by simpa using h1) hne
      · split at h
        · rename_i h1; exact .inl h1
        · split at h
          · rename_i h1; exact .inr (.inl h1)
          · split at h
            · rename_i h1; exact .inr (.inr (minds_ok h1))
            · cases h
    | succ j =>
      have hr : against i ii bi ms l (k + 1) = true := by
        split at h
        · exact h
        · split at h
          · exact h
          · split at h
            · exact h
            · split at h
              · exact h
              · cases h
      have := ih (k + 1) hr j e (by simpa using he) (by omega)
      rwa [show k + 1 + j = k + (j + 1) by omega] at this
theorem memOk_ok (es : List Eff) (ms : List Nat) (l : List Eff) : ∀ (k : Nat), memOk es ms l k = true → ∀ i a, l[i]? = some a → ∀ j b, es[j]? = some b → j ≠ k + i → bitOf ((nth ms (k + i)).getD 0) j = true ∨ bitOf ((nth ms j).getD 0) (k + i) = true ∨ Free a b := by
  induction l with
  | nil => simp
  | cons e l ih =>
    intro k h i a ha j b hb hne
    simp only [memOk] at h
    cases i with
    | zero =>
      simp at ha; subst ha
      simp only [Nat.add_zero] at hne ⊢
      split at h
      · split at h
        · rename_i h1 h2
          have := against_ok e k _ ms es 0 h2 j b hb (by omega)
          simpa using this
        · cases h
      · rename_i h1
        refine .inr (.inr ?_)
        unfold loud at h1
        cases hg : e.gone with
        | cons p ws => simp [hg] at h1
        | nil =>
        cases hw : e.writes with
        | nil =>
          simp only [hw, hg] at h1
          split at h1
          · rename_i h2
            have : e.lo = e.hi := by simpa using h2
            exact ⟨by simp [hw, lk_nil], by simp [hg, memN], fun n a b => by omega, fun n a b => by omega, fun n a b => by omega⟩
          · exact absurd rfl h1
        | cons p ws => simp [hw, hg] at h1
    | succ i =>
      have hr : memOk es ms l (k + 1) = true := by
        split at h
        · split at h
          · exact h
          · cases h
        · exact h
      have := ih (k + 1) hr i a (by simpa using ha) j b hb (by omega)
      rwa [show k + 1 + i = k + (i + 1) by omega] at this
end
theorem againstP_ok {e : Eff} {j bj : Nat} {ms : List Nat} : ∀ (l : List Eff) (i : Nat), againstP e j bj ms l i = true → ∀ t a, l[t]? = some a → i + t ≠ j →
    bitOf ((nth ms (i + t)).getD 0) j = true ∨ bitOf bj (i + t) = true ∨ (Free a e ∧ Free e a ∧ a.writes = [] ∧ a.gone = []) := by
  intro l
  induction l with
  | nil => intro i h t a ha; simp at ha
  | cons b l ih =>
    intro i h t a ha hne
    simp only [againstP] at h
    cases t with
    | zero =>
      simp at ha
      subst ha
      simp only [Nat.add_zero] at hne ⊢
      split at h
      · rename_i h1; exact absurd (by simpa using h1) hne
      · split at h
        · rename_i h1; exact .inl h1
        · split at h
          · rename_i h1; exact .inr (.inl h1)
          · split at h
            · rename_i hw hg
              split at h
              · rename_i h1
                split at h
                · rename_i h2
                  exact .inr (.inr ⟨minds_ok h1, minds_ok h2, hw, hg⟩)
                · cases h
              · cases h
            · cases h
    | succ t =>
      have hr : againstP e j bj ms l (Nat.succ i) = true := by
        split at h
        · exact h
        · split at h
          · exact h
          · split at h
            · exact h
            · split at h
              · split at h
                · split at h
                  · exact h
                  · cases h
                · cases h
              · cases h
      have := ih (Nat.succ i) hr t a (by simpa using ha) (by omega)
      rwa [show Nat.succ i + t = i + (t + 1) by omega] at this
theorem madeP_false {bj n : Nat} : ∀ (l : List Eff) (i : Nat) (t : Nat) (a : Eff), l[t]? = some a → bitOf bj (i + t) = false → (lk a.made n).isSome = true → n ∈ madeP false bj l i := by
  intro l
  induction l with
  | nil => intro i t a ha; simp at ha
  | cons b l ih =>
    intro i t a ha hb hm
    cases t with
    | zero =>
      simp at ha
      subst ha
      simp only [Nat.add_zero] at hb
      obtain ⟨o, ho⟩ := Option.isSome_iff_exists.1 hm
      simp only [madeP, hb]
      exact List.mem_append.2 (.inl (List.mem_map.2 ⟨(n, o), lk_mem ho, rfl⟩))
    | succ t =>
      have := ih (Nat.succ i) t a (by simpa using ha) (by rw [show Nat.succ i + t = i + (t + 1) by omega]; exact hb) hm
      simp only [madeP]
      split
      · exact List.mem_append.2 (.inr this)
      · exact List.mem_append.2 (.inr this)
      · exact this
theorem pickN_ok {f : Nat → Option SObj} {no : List Nat} : ∀ {l : List Nat} {n : Nat} {q : SObj}, lk (pickN f no l) n = some q → n ∉ no ∧ f n = some q
 | [], n, q, h => by simp [pickN, lk_nil] at h
 | m :: l, n, q, h => by
  simp only [pickN] at h
  split at h
  ·exact pickN_ok h
  ·rename_i hno
   split at h
   ·rename_i o ho
    rw [lk_cons] at h
    split at h
    ·rename_i e
     subst e
     cases h
     exact ⟨fun hm => hno ((memN_iff _ _).2 hm), ho⟩
    ·exact pickN_ok h
   ·exact pickN_ok h
end Go.Proofs.Ythenenacmiiphaa.Sx
namespace Go.Proofs.Ythenenacmiiphaa.Sx
open Go
section
variable {P : Program} {orac : Orc} {b0 : World} {ρ : Rho} {ops : Array Oper} {es : List Eff} {slI : Nat → Option SV} {hI : Nat → Option SObj} {nx N : Nat}
structure Reg (P : Program) (b0 : World) (orac : Orc) (ρ : Rho) (ops : Array Oper) (es : List Eff) (slI : Nat → Option SV) (hI : Nat → Option SObj) (nx N : Nat) : Prop where
 edges : edgesOk ops.toList 0 = true
 pairs : ∀ i j oi oj, i < j → ops[i]? = some oi → ops[j]? = some oj → bitOf (msk ops j) i = true ∨ Oper.apart ops oi oj = true
 len : es.length ≤ ops.size
 facts : ∀ j e, es[j]? = some e → Dum e ∨ ∃ o, ops[j]? = some o ∧ Fact P b0 orac ρ ops nx N es slI hI 0 j e o ∧ panV e.val = none
 order : ∀ (i j : Nat) (a b : Eff), i < j → es[i]? = some a → es[j]? = some b → a.hi ≤ b.lo
 free : ∀ i a j b, es[i]? = some a → es[j]? = some b → j ≠ i → bitOf (msk ops i) j = true ∨ bitOf (msk ops j) i = true ∨ Free a b
 slN : ∀ t v, slI t = some v → NamesV nx v
 hN : ∀ x o, hI x = some o → x < nx ∧ ∀ y ∈ o.names, y < nx
structure Inv (P : Program) (b0 : World) (ρ : Rho) (w0 : World) (ops : Array Oper) (es : List Eff) (slI : Nat → Option SV) (hI : Nat → Option SObj) (nx N : Nat) (D : Nat → Bool) (ρ1 : Rho) (w1 : World) (tm : Array Value) : Prop where
 same : Same ρ ρ1
 a : ∀ n, n < nx ∨ N ≤ n → ρ1.a n = ρ.a n
 inn : ∀ j, D j = true → j < ops.size
 closed : ∀ j o, D j = true → ops[j]? = some o → ∀ e ∈ o.after.toList, bindsA e = true → D e.on = true
 slots : ∀ t, (stX apS es D ops.size t (slI t)).map (SV.den ρ1) = tm[t]?
 heap : HeapF ρ1 b0 (fun x => stX apH es D ops.size x (hI x)) w1
 size : w0.heap.size ≤ w1.heap.size
 blocks : ∀ k, k < w0.heap.size → (∀ n o, hI n = some o → ρ.a n ≠ k) → w1.heap[k]? = w0.heap[k]?
 dom : ∀ x o, stX apH es D ops.size x (hI x) = some o → (∃ p, hI x = some p) ∨ (nx ≤ x ∧ x < N ∧ (w0.heap.size ≤ ρ1.a x ∨ ∃ m p, hI m = some p ∧ ρ1.a x = ρ.a m))
theorem apS_from : ∀ (e : Eff) (x : Nat) (v : Option SV) (u : SV), apS e x v = some u → v = some u ∨ (WS e x ∧ apS e x none = some u) ∨ (WS e x ∧ ∃ y, v = some y ∧ apS e x (some y) = some u) := by
 intro e x v u h
 by_cases hw : WS e x
 ·cases v with
  | none => exact .inr (.inl ⟨hw, h⟩)
  | some y => exact .inr (.inr ⟨hw, y, rfl, h⟩)
 ·rw [apS_id hw] at h; exact .inl h
theorem apH_from : ∀ (e : Eff) (x : Nat) (v : Option SObj) (u : SObj), apH e x v = some u → v = some u ∨ (WH e x ∧ apH e x none = some u) ∨ (WH e x ∧ ∃ y, v = some y ∧ apH e x (some y) = some u) := by
 intro e x v u h
 by_cases hw : WH e x
 ·cases v with
  | none => exact .inr (.inl ⟨hw, h⟩)
  | some y => exact .inr (.inr ⟨hw, y, rfl, h⟩)
 ·rw [apH_id hw] at h; exact .inl h
theorem apS_val {e : Eff} {x : Nat} {y : Option SV} {u : SV} (hw : WS e x) (h : apS e x y = some u) : u = e.val := by
 unfold apS at h
 rw [if_pos (show e.dst = some x from hw)] at h
 cases y <;> simp at h
 exact h.symm
theorem apH_val {e : Eff} {x : Nat} {y : Option SObj} {u : SObj} (hw : WH e x) (h : apH e x y = some u) : lk e.made x = some u ∨ lk e.writes x = some u := by
 unfold apH at h
 cases h1 : lk e.made x with
 | some q => simp only [h1] at h; exact .inl h
 | none =>
  simp only [h1] at h
  cases h2 : lk e.writes x with
  | some q => simp only [h2] at h; exact .inr h
  | none => rcases hw with hw | hw | hw <;> simp_all
theorem apH_W {e : Eff} {x : Nat} {y : Option SObj} {u : SObj} (hw : WH e x) (h : apH e x y = some u) : (lk e.made x).isSome = true ∨ (lk e.writes x).isSome = true := by
 rcases apH_val hw h with h | h
 ·exact .inl (by simp [h])
 ·exact .inr (by simp [h])
theorem msk_lt (hE : edgesOk ops.toList 0 = true) : ∀ m i', bitOf (msk ops m) i' = true → m < ops.size → i' < m := by
  intro m
  induction m using Nat.strongRecOn with
  | _ m ih =>
    intro i' hb' hm
    obtain ⟨ee, c1, c2, c3, c4⟩ := msk_bit hE (show ops[m]? = some ops[m] by simp [hm]) hb'
    rcases c4 with rfl | c4
    · exact c3
    · have := ih ee.on c3 i' c4 (by omega); omega
theorem apart_use {a b : Oper} (h : Oper.apart ops a b = true) : (∀ d, a.dst = some d → d ∉ b.looksAt ops) ∧ (∀ d, a.dst = some d → b.dst ≠ some d) ∧ (∀ d, b.dst = some d → d ∉ a.looksAt ops) := Oper.apart_spec h
structure Core (b0 : World) (ops : Array Oper) (es : List Eff) (slI : Nat → Option SV) (hI : Nat → Option SObj) (D : Nat → Bool) (ρ1 : Rho) (w1 : World) (e : Eff) (ρ' : Rho) (w' : World) : Prop where
 g : Agr ρ1 ρ' e.lo e.hi
 H : HeapF ρ' b0 (fun x => apH e x (stX apH es D ops.size x (hI x))) w'
 sz : w1.heap.size ≤ w'.heap.size
 sm : ∀ kk, kk < w1.heap.size → (∀ n q, stX apH es D ops.size n (hI n) = some q → ρ1.a n ≠ kk) → w'.heap[kk]? = w1.heap[kk]?
 md : ∀ x, (lk e.made x).isSome = true → e.lo ≤ x ∧ x < e.hi ∧ (w1.heap.size ≤ ρ'.a x ∨ ∃ m p, memN m e.touch = true ∧ stX apH es D ops.size m (hI m) = some p ∧ ρ'.a x = ρ1.a m)
 wr : ∀ x, (lk e.writes x).isSome = true → memN x e.touch = true ∧ (stX apH es D ops.size x (hI x)).isSome = true
 frS : ∀ t v, stX apS es D ops.size t (slI t) = some v → ∀ y ∈ v.names, y < e.lo ∨ e.hi ≤ y
 frH : ∀ x q, stX apH es D ops.size x (hI x) = some q → (x < e.lo ∨ e.hi ≤ x) ∧ ∀ y ∈ q.names, y < e.lo ∨ e.hi ≤ y
theorem inv_core (R : Reg P b0 orac ρ ops es slI hI nx N) {w0 w1 : World} {D : Nat → Bool} {ρ1 : Rho} {tm : Array Value} (I : Inv P b0 ρ w0 ops es slI hI nx N D ρ1 w1 tm) {j : Nat} {o : Oper} {e : Eff} (ho : ops[j]? = some o)
  (F : Fact P b0 orac ρ ops nx N es slI hI 0 j e o) (hfr : ∀ i a, es[i]? = some a → i ≠ j → bitOf (msk ops i) j = true ∨ bitOf (msk ops j) i = true ∨ (Free a e ∧ Free e a)) (hord : ∀ i a, es[i]? = some a → (i < j → a.hi ≤ e.lo) ∧ (j < i → e.hi ≤ a.lo))
  (hDj : D j = false) (hready : ∀ e ∈ o.after.toList, bindsA e = true → D e.on = true) (fn : FuncId) (k : List Item) (ds : List Deferred) (r : RK) (cs : List Frame) (rest : List Nat) :
  ∃ ρ' w', Steps P (lone (fr fn tm (.inRegion ops (j :: rest) :: k) ds r) cs w1) (lone (endFr fn tm ops j rest k ds r o.dst ρ' e.val) cs w') ∧ Core b0 ops es slI hI D ρ1 w1 e ρ' w' := by
 have hj : j < ops.size := (Array.getElem?_eq_some_iff.1 ho).1
 have hloc := F.loc
 rw [Nat.zero_add] at hloc
 have hdone := msk_done R.edges I.closed I.inn
 have pre : ∀ i, bitOf (msk ops j) i = true → D i = true := hdone j o ho hready
 -- what stands behind j is not done, where it stands behind j by the edges
 have post : ∀ i oi, ops[i]? = some oi → D i = true → bitOf (msk ops i) j = true → False := by
  intro i oi hi hd hb
  have := hdone i oi hi (I.closed i oi hd hi) j hb
  rw [hDj] at this; cases this
 have esat : ∀ (i : Nat) (a : Eff), es[i]? = some a → ∃ oi : Oper, ops[i]? = some oi := by
  intro i a ha
  have : i < ops.size := Nat.lt_of_lt_of_le (List.getElem?_eq_some_iff.1 ha).1 R.len
  exact ⟨ops[i], by simp [this]⟩
 -- the slots that it looks at
 have hsl : ∀ t ∈ o.looksAt ops, stX apS es all j t (slI t) = stX apS es D ops.size t (slI t) := by
  intro t ht
  refine stX_agree (W := WS) (fun e x v h => apS_id h v) es all D j ops.size t (slI t) ?_
  intro i a ha hw
  obtain ⟨oi, hoi, hd⟩ : ∃ oi, ops[i]? = some oi ∧ a.dst = oi.dst := by
   rcases R.facts i a ha with hdm | ⟨oi, h1, h2, _⟩
   ·exact absurd hw (hdm.S t)
   ·exact ⟨oi, h1, h2.dst⟩
  have hi : i < ops.size := (Array.getElem?_eq_some_iff.1 hoi).1
  have hw' : oi.dst = some t := by rw [← hd]; exact hw
  simp only [all, Bool.and_true, hi, decide_true, Bool.true_and]
  rcases Nat.lt_trichotomy i j with h | h | h
  ·rw [decide_eq_true h]
   rcases R.pairs i j oi o h hoi ho with hb | hp
   ·exact (pre i hb).symm
   ·exact absurd ht ((apart_use hp).1 t hw')
  ·subst h; simp [hDj]
  ·rw [decide_eq_false (by omega)]
   rcases R.pairs j i o oi h ho hoi with hb | hp
   ·cases hd2 : D i with
    | false => rfl
    | true => exact (post i oi hoi hd2 hb).elim
   ·exact absurd ht ((apart_use hp).2.2 t hw')
 -- the memory that it touches
 have hhp : ∀ x, memN x e.touch = true → stX apH es all j x (hI x) = stX apH es D ops.size x (hI x) := by
  intro x hx
  refine stX_agree (W := WH) (fun e x v h => apH_id h v) es all D j ops.size x (hI x) ?_
  intro i a ha hw
  obtain ⟨oi, hoi⟩ := esat i a ha
  have hi : i < ops.size := (Array.getElem?_eq_some_iff.1 hoi).1
  simp only [all, Bool.and_true, hi, decide_true, Bool.true_and]
  obtain ⟨_, _, Fi, _⟩ := (R.facts i a ha).resolve_left (fun hdm => hdm.H x hw)
  have nofree : Free a e → i < j → False := by
   intro hf _
   rcases hw with hw | hw | hw
   ·obtain ⟨b1, b2⟩ := Fi.made x hw
    have := hf.touch x b1 b2
    rw [hx] at this; cases this
   ·have := hf.wr x hw
    rw [hx] at this; cases this
   ·have := hf.gn x hw
    rw [hx] at this; cases this
  rcases Nat.lt_trichotomy i j with h | h | h
  ·rw [decide_eq_true h]
   rcases hfr i a ha (by omega) with hb | hb | ⟨hf, _⟩
   ·-- j ahead of i, though i is ahead in the text: no such edge
    exfalso
    have := msk_lt R.edges i j hb hi
    omega
   ·exact (pre i hb).symm
   ·exact (nofree hf h).elim
  ·subst h; simp [hDj]
  ·rw [decide_eq_false (by omega)]
   cases hd2 : D i with
   | false => rfl
   | true =>
    exfalso
    rcases hfr i a ha (by omega) with hb | hb | ⟨hf, _⟩
    ·exact post i oi hoi hd2 hb
    ·-- i ahead of j, though behind in the text
     have := msk_lt R.edges j i hb hj
     omega
    ·rcases hw with hw | hw | hw
     ·obtain ⟨b1, b2⟩ := Fi.made x hw
      have := hf.touch x b1 b2
      rw [hx] at this; cases this
     ·have := hf.wr x hw
      rw [hx] at this; cases this
     ·have := hf.gn x hw
      rw [hx] at this; cases this
 -- what another one that is done did is free of what j makes
 have hfree : ∀ i a, es[i]? = some a → D i = true → i < j ∧ a.hi ≤ e.lo ∨ j < i ∧ e.hi ≤ a.lo ∧ Free e a := by
  intro i a ha hd
  obtain ⟨oi, hoi⟩ := esat i a ha
  have hi : i < ops.size := (Array.getElem?_eq_some_iff.1 hoi).1
  rcases Nat.lt_trichotomy i j with h | h | h
  ·exact .inl ⟨h, (hord i a ha).1 h⟩
  ·subst h; rw [hDj] at hd; cases hd
  ·refine .inr ⟨h, (hord i a ha).2 h, ?_⟩
   rcases hfr i a ha (by omega) with hb | hb | ⟨_, hf⟩
   ·exact (post i oi hoi hd hb).elim
   ·have := msk_lt R.edges j i hb hj; omega
   ·exact hf
 have freshS : ∀ t v, stX apS es D ops.size t (slI t) = some v → ∀ y ∈ v.names, y < e.lo ∨ e.hi ≤ y := by
  intro t v hv y hy
  rcases stX_from (W := WS) apS_from es D ops.size t (slI t) v hv with h | ⟨i, a, u, ha, hd, hw, hu⟩
  ·exact .inl (Nat.lt_of_lt_of_le (R.slN t v h y hy) F.lo)
  ·have := apS_val hw hu
   subst this
   obtain ⟨_, _, Fi, _⟩ := (R.facts i a ha).resolve_left (fun hdm => hdm.S t hw)
   rcases hfree i a ha hd with ⟨h1, h2⟩ | ⟨h1, h2, h3⟩
   ·exact .inl (Nat.lt_of_lt_of_le (Fi.val y hy) h2)
   ·rcases Nat.lt_or_ge y e.lo with h4 | h4
    ·exact .inl h4
    ·rcases Nat.lt_or_ge y e.hi with h5 | h5
     ·exact absurd hy (h3.val y h4 h5)
     ·exact .inr h5
 have freshH : ∀ x q, stX apH es D ops.size x (hI x) = some q → (x < e.lo ∨ e.hi ≤ x) ∧ ∀ y ∈ q.names, y < e.lo ∨ e.hi ≤ y := by
  intro x q hq
  rcases stX_from (W := WH) apH_from es D ops.size x (hI x) q hq with h | ⟨i, a, u, ha, hd, hw, hu⟩
  ·obtain ⟨h1, h2⟩ := R.hN x q h
   exact ⟨.inl (Nat.lt_of_lt_of_le h1 F.lo), fun y hy => .inl (Nat.lt_of_lt_of_le (h2 y hy) F.lo)⟩
  ·have hm := apH_val hw hu
   obtain ⟨_, _, Fi, _⟩ := (R.facts i a ha).resolve_left (fun hdm => hdm.H x hw)
   have hw := apH_W hw hu
   have hlh := Fi.lh
   rcases hfree i a ha hd with ⟨h1, h2⟩ | ⟨h1, h2, h3⟩
   ·refine ⟨.inl ?_, fun y hy => .inl (Nat.lt_of_lt_of_le (Fi.objs x q hm y hy) h2)⟩
    rcases hw with hw | hw
    ·exact Nat.lt_of_lt_of_le (Fi.made x hw).2 h2
    ·obtain ⟨_, hs⟩ := Fi.wr x hw
     obtain ⟨p, hp⟩ := Option.isSome_iff_exists.1 hs
     have := (Fi.st x p hp).1
     omega
   ·refine ⟨?_, ?_⟩
    ·rcases hw with hw | hw
     ·exact .inr (Nat.le_trans h2 (Fi.made x hw).1)
     ·obtain ⟨ht, _⟩ := Fi.wr x hw
      rcases Nat.lt_or_ge x e.lo with h4 | h4
      ·exact .inl h4
      ·rcases Nat.lt_or_ge x e.hi with h5 | h5
       ·have := h3.touch x h4 h5
        rw [ht] at this; cases this
       ·exact .inr h5
    ·intro y hy
     rcases Nat.lt_or_ge y e.lo with h4 | h4
     ·exact .inl h4
     ·rcases Nat.lt_or_ge y e.hi with h5 | h5
      ·exact absurd hy (h3.objs y h4 h5 x q hm.symm)
      ·exact .inr h5
 have hfun : (fun x => if memN x e.touch = true then stX apH es all j x (hI x) else none) = (fun x => if memN x e.touch = true then stX apH es D ops.size x (hI x) else none) := by
  funext x
  by_cases hx : memN x e.touch = true
  ·rw [if_pos hx, if_pos hx, hhp x hx]
  ·rw [if_neg hx, if_neg hx]
 have hpart : HeapF ρ1 b0 (fun x => if memN x e.touch = true then stX apH es all j x (hI x) else none) w1 := by
  rw [hfun]
  refine I.heap.part fun n q hq => ?_
  split at hq
  ·exact hq
  ·cases hq
 obtain ⟨ρ', w', g, hst, H2, hsz, hsm, hmd, hgn, hwr, hle, hnv, hob⟩ := hloc ρ1 w1 tm fn k ds r cs rest I.same (fun t ht => by show (stX apS es all j t (slI t)).map _ = _; rw [hsl t ht]; exact I.slots t) hpart
 have H2' : HeapF ρ' b0 (fun x => apH e x (if memN x e.touch = true then stX apH es D ops.size x (hI x) else none)) w' := by
  have : (fun x => apH e x (if memN x e.touch = true then stX apH es all j x (hI x) else none)) = (fun x => apH e x (if memN x e.touch = true then stX apH es D ops.size x (hI x) else none)) := by
   funext x; rw [congrFun hfun x]
  rw [← this]; exact H2
 have hwr' : ∀ x, (lk e.writes x).isSome = true → memN x e.touch = true ∧ (stX apH es D ops.size x (hI x)).isSome = true := by
  intro x hx
  obtain ⟨h1, h2⟩ := hwr x hx
  exact ⟨h1, by rw [← hhp x h1]; exact h2⟩
 have hmd' : ∀ x, (lk e.made x).isSome = true → e.lo ≤ x ∧ x < e.hi ∧ (w1.heap.size ≤ ρ'.a x ∨ ∃ m p, memN m e.touch = true ∧ stX apH es D ops.size m (hI m) = some p ∧ ρ'.a x = ρ1.a m) := by
  intro x hx
  obtain ⟨c1, c2, c3⟩ := hmd x hx
  refine ⟨c1, c2, ?_⟩
  rcases c3 with c3 | ⟨m, p, m1, m2, m3⟩
  ·exact .inl c3
  ·exact .inr ⟨m, p, m1, by rw [← hhp m m1]; exact m2, m3⟩
 have Hm := merge (L := fun x => stX apH es D ops.size x (hI x)) I.heap g H2' (fun x q hq => ⟨(freshH x q hq).1, .inr (freshH x q hq).2⟩) hmd' (fun x hx => (hgn x hx).1) hwr' hsz (by
  intro kk hkk hne
  refine hsm kk hkk (fun n q hn hq => ?_)
  have hq : stX apH es all j n (hI n) = some q := hq
  rw [hhp n hn] at hq
  exact hne n q hn hq)
 exact ⟨ρ', w', hst, ⟨g, Hm, hsz, fun kk hkk hne => hsm kk hkk (fun n q hn hq => by
  have hq : stX apH es all j n (hI n) = some q := hq
  rw [hhp n hn] at hq
  exact hne n q hq), hmd', hwr', freshS, freshH⟩⟩
theorem inv_step (R : Reg P b0 orac ρ ops es slI hI nx N) {w0 w1 : World} {D : Nat → Bool} {ρ1 : Rho} {tm : Array Value} (I : Inv P b0 ρ w0 ops es slI hI nx N D ρ1 w1 tm) {j : Nat} {o : Oper} {e : Eff} (ho : ops[j]? = some o)
  (he : es[j]? = some e) (F : Fact P b0 orac ρ ops nx N es slI hI 0 j e o) (hcalm : panV e.val = none) (hDj : D j = false) (hready : ∀ e ∈ o.after.toList, bindsA e = true → D e.on = true) (fn : FuncId) (k : List Item) (ds : List Deferred) (r : RK) (cs : List Frame) (rest : List Nat) :
  ∃ ρ' w' tm', Steps P (lone (fr fn tm (.inRegion ops (j :: rest) :: k) ds r) cs w1) (lone (fr fn tm' (.inRegion ops rest :: k) ds r) cs w') ∧ Inv P b0 ρ w0 ops es slI hI nx N (fun i => D i || decide (i = j)) ρ' w' tm' := by
 have hj : j < ops.size := (Array.getElem?_eq_some_iff.1 ho).1
 have hfr : ∀ i a, es[i]? = some a → i ≠ j → bitOf (msk ops i) j = true ∨ bitOf (msk ops j) i = true ∨ (Free a e ∧ Free e a) := by
  intro i a ha hij
  rcases R.free i a j e ha he (fun h => hij h.symm) with h | h | h
  ·exact .inl h
  ·exact .inr (.inl h)
  ·rcases R.free j e i a he ha hij with h2 | h2 | h2
   ·exact .inr (.inl h2)
   ·exact .inl h2
   ·exact .inr (.inr ⟨h, h2⟩)
 have hord : ∀ i a, es[i]? = some a → (i < j → a.hi ≤ e.lo) ∧ (j < i → e.hi ≤ a.lo) := fun i a ha => ⟨fun h => R.order i j a e h ha he, fun h => R.order j i e a h he ha⟩
 obtain ⟨ρ', w', hst, K⟩ := inv_core R I ho F hfr hord hDj hready fn k ds r cs rest
 rw [endFr_n hcalm] at hst
 have hdone := msk_done R.edges I.closed I.inn
 have post : ∀ i oi, ops[i]? = some oi → D i = true → bitOf (msk ops i) j = true → False := by
  intro i oi hi hd hb
  have := hdone i oi hi (I.closed i oi hd hi) j hb
  rw [hDj] at this; cases this
 have hfree : ∀ i a, es[i]? = some a → D i = true → i < j ∧ a.hi ≤ e.lo ∨ j < i ∧ e.hi ≤ a.lo ∧ Free e a := by
  intro i a ha hd
  have hi : i < ops.size := I.inn i hd
  rcases Nat.lt_trichotomy i j with h | h | h
  ·exact .inl ⟨h, (hord i a ha).1 h⟩
  ·subst h; rw [hDj] at hd; cases hd
  ·refine .inr ⟨h, (hord i a ha).2 h, ?_⟩
   rcases hfr i a ha (by omega) with hb | hb | ⟨_, hf⟩
   ·exact (post i ops[i] (by simp [hi]) hd hb).elim
   ·have := msk_lt R.edges j i hb hj; omega
   ·exact hf
 have g := K.g
 have addS : ∀ t, stX apS es (fun i => D i || decide (i = j)) ops.size t (slI t) = apS e t (stX apS es D ops.size t (slI t)) := by
  intro t
  refine stX_add (W := WS) (fun e x v h => apS_id h v) es D _ ops.size j t (slI t) e he hj hDj (fun i => rfl) ?_
  intro i a hij ha hd hw hw2
  obtain ⟨oi, hoi, hdst⟩ : ∃ oi, ops[i]? = some oi ∧ a.dst = oi.dst := by
   rcases R.facts i a ha with hdm | ⟨oi, h1, h2, _⟩
   ·exact absurd hw2 (hdm.S t)
   ·exact ⟨oi, h1, h2.dst⟩
  rcases R.pairs j i o oi hij ho hoi with hb | hp
  ·exact post i oi hoi hd hb
  ·exact (apart_use hp).2.1 t (by rw [← F.dst]; exact hw) (by rw [← hdst]; exact hw2)
 have addH : ∀ x, stX apH es (fun i => D i || decide (i = j)) ops.size x (hI x) = apH e x (stX apH es D ops.size x (hI x)) := by
  intro x
  refine stX_add (W := WH) (fun e x v h => apH_id h v) es D _ ops.size j x (hI x) e he hj hDj (fun i => rfl) ?_
  intro i a hij ha hd hw hw2
  obtain ⟨_, _, Fi, _⟩ := (R.facts i a ha).resolve_left (fun hdm => hdm.H x hw2)
  rcases hfree i a ha hd with ⟨h1, _⟩ | ⟨h1, h2, h3⟩
  ·omega
  ·have two : (lk a.made x).isSome = true ∨ memN x a.touch = true := by
    rcases hw2 with hw2 | hw2 | hw2
    ·exact .inl hw2
    ·exact .inr (Fi.wr x hw2).1
    ·exact .inr (Fi.gn x hw2).1
   rcases two with hw2 | ht
   ·obtain ⟨c1, c2⟩ := Fi.made x hw2
    have old : (stX apH es all j x (hI x)).isSome = true → False := by
     intro hs
     obtain ⟨p, hp⟩ := Option.isSome_iff_exists.1 hs
     have := F.st x p (by simpa using hp)
     have := F.lh
     omega
    rcases hw with hw | hw | hw
    ·have := F.made x hw; omega
    ·exact old (F.wr x hw).2
    ·exact old (F.gn x hw).2
   ·rcases hw with hw | hw | hw
    ·obtain ⟨c1, c2⟩ := F.made x hw
     have := h3.touch x c1 c2
     rw [ht] at this; cases this
    ·have := h3.wr x hw
     rw [ht] at this; cases this
    ·have := h3.gn x hw
     rw [ht] at this; cases this
 have hold : ∀ t, (stX apS es D ops.size t (slI t)).map (SV.den ρ') = tm[t]? := by
  intro t
  rw [← I.slots t]
  cases hv : stX apS es D ops.size t (slI t) with
  | none => rfl
  | some v => simp [SV.den_agr g v (K.frS t v hv)]
 refine ⟨ρ', w', putA tm o.dst (e.val.den ρ'), hst, ⟨I.same.trans g.same, ?_, ?_, ?_, ?_, ?_, Nat.le_trans I.size K.sz, ?_, ?_⟩⟩
 ·intro n hn
  have h1 := F.lo
  have h2 := F.hi
  rw [g.a n (by omega)]; exact I.a n hn
 ·intro i hi
  simp only [Bool.or_eq_true, decide_eq_true_eq] at hi
  rcases hi with hi | rfl
  ·exact I.inn i hi
  ·exact hj
 ·intro i oi hi hoi ed hed hb
  simp only [Bool.or_eq_true, decide_eq_true_eq] at hi ⊢
  rcases hi with hi | rfl
  ·exact .inl (I.closed i oi hi hoi ed hed hb)
  ·rw [ho] at hoi; cases hoi; exact .inl (hready ed hed hb)
 ·intro t
  rw [addS t]
  have ht := hold t
  generalize stX apS es D ops.size t (slI t) = V at ht ⊢
  unfold apS
  rw [F.dst]
  cases hd : o.dst with
  | none => simpa [putA] using ht
  | some d =>
   by_cases hdt : d = t
   ·subst hdt
    simp only [if_true, putA]
    rw [Array.getElem?_setIfInBounds]
    simp only [if_true]
    split
    ·rename_i hlt
     rw [Array.getElem?_eq_getElem hlt] at ht
     cases V <;> simp at ht ⊢
    ·rename_i hlt
     rw [Array.getElem?_eq_none (by omega)] at ht
     cases V <;> simp at ht ⊢
   ·rw [if_neg (by simpa using hdt)]
    simp only [putA]
    rw [Array.getElem?_setIfInBounds_ne hdt]
    exact ht
 ·have : (fun x => stX apH es (fun i => D i || decide (i = j)) ops.size x (hI x)) = (fun x => apH e x (stX apH es D ops.size x (hI x))) := funext addH
  rw [this]; exact K.H
 ·intro kk hkk hne
  rw [← I.blocks kk hkk hne]
  refine K.sm kk (Nat.lt_of_lt_of_le hkk I.size) ?_
  intro n q hq heq
  rcases I.dom n q hq with ⟨p, hp⟩ | ⟨c1, c2, c3⟩
  ·rw [I.a n (.inl (R.hN n p hp).1)] at heq
   exact hne n p hp heq
  ·rcases c3 with c3 | ⟨m, p, m1, m2⟩
   ·omega
   ·exact hne m p m1 (by rw [← m2]; exact heq)
 ·intro x q hq
  rw [addH x] at hq
  unfold apH at hq
  have key : ∀ p, stX apH es D ops.size x (hI x) = some p → (∃ p, hI x = some p) ∨ (nx ≤ x ∧ x < N ∧ (w0.heap.size ≤ ρ'.a x ∨ ∃ m p, hI m = some p ∧ ρ'.a x = ρ.a m)) := by
   intro p hp
   rcases I.dom x p hp with h | ⟨c1, c2, c3⟩
   ·exact .inl h
   ·exact .inr ⟨c1, c2, by rw [g.a x (K.frH x p hp).1]; exact c3⟩
  cases h1 : lk e.made x with
  | some p =>
   obtain ⟨c1, c2, c3⟩ := K.md x (by simp [h1])
   refine .inr ⟨Nat.le_trans F.lo c1, Nat.lt_of_lt_of_le c2 F.hi, ?_⟩
   rcases c3 with c3 | ⟨m, q2, m1, m2, m3⟩
   ·exact .inl (Nat.le_trans I.size c3)
   ·rw [m3]
    rcases I.dom m q2 m2 with ⟨q3, hq3⟩ | ⟨_, _, d3⟩
    ·exact .inr ⟨m, q3, hq3, I.a m (.inl (R.hN m q3 hq3).1)⟩
    ·exact d3
  | none =>
   simp only [h1] at hq
   cases h2 : lk e.writes x with
   | some p =>
    obtain ⟨p2, hp2⟩ := Option.isSome_iff_exists.1 (K.wr x (by simp [h2])).2
    exact key p2 hp2
   | none =>
    simp only [h2] at hq
    split at hq
    ·cases hq
    exact key q hq
end
end Go.Proofs.Ythenenacmiiphaa.Sx
namespace Go.Proofs.Ythenenacmiiphaa.Sx
open Go
theorem countP_lt {α : Type} (l : List α) (p q : α → Bool) (h : ∀ x ∈ l, q x = true → p x = true) (hx : ∃ x ∈ l, p x = true ∧ q x = false) : l.countP q < l.countP p := by
  induction l with
  | nil => simp at hx
  | cons a l ih =>
    simp only [List.countP_cons]
    obtain ⟨x, hxm, h1, h2⟩ := hx
    have hle : l.countP q ≤ l.countP p := List.countP_mono_left (fun y hy => h y (List.mem_cons_of_mem _ hy))
    rcases List.mem_cons.1 hxm with rfl | hxm
    · simp [h1, h2]; omega
    · have := ih (fun y hy => h y (List.mem_cons_of_mem _ hy)) ⟨x, hxm, h1, h2⟩
      have ha := h a (List.mem_cons_self ..)
      cases hq : q a with
      | false => simp; split <;> omega
      | true => simp [ha hq]; omega
section
variable {P : Program} {orac : Orc} {b0 : World} {ρ : Rho} {ops : Array Oper} {es : List Eff} {slI : Nat → Option SV} {hI : Nat → Option SObj} {nx N : Nat}
def cntU (n : Nat) (L : Array Bool) : Nat := (List.range n).countP fun i => !L.getD i false
theorem getD_set (L : Array Bool) (i j : Nat) (hi : i < L.size) : (L.setIfInBounds i true).getD j false = (L.getD j false || decide (j = i)) := by
 rw [Array.getD_eq_getD_getElem?, Array.getD_eq_getD_getElem?, Array.getElem?_setIfInBounds]
 by_cases h : i = j
 ·subst h; simp [hi]
 ·simp [h, Ne.symm h]
theorem lin_ok (R : Reg P b0 orac ρ ops es slI hI nx N) (hlen : es.length = ops.size) (hreal : ∀ j e, es[j]? = some e → ∃ o, ops[j]? = some o ∧ Fact P b0 orac ρ ops nx N es slI hI 0 j e o ∧ panV e.val = none) {w0 : World} (fn : FuncId) (k : List Item) (ds : List Deferred) (r : RK) (cs : List Frame) : ∀ (fuel t : Nat) (L : Array Bool) (ρ1 : Rho) (w1 : World) (tm : Array Value),
    L.size = ops.size → cntU ops.size L ≤ fuel → Inv P b0 ρ w0 ops es slI hI nx N (fun i => L.getD i false) ρ1 w1 tm →
    ∃ ρ' w' tm' D, Steps P (lone (fr fn tm (.inRegion ops (Region.linearise.go .any ops fuel t L []) :: k) ds r) cs w1) (lone (fr fn tm' (.inRegion ops [] :: k) ds r) cs w') ∧ Inv P b0 ρ w0 ops es slI hI nx N D ρ' w' tm' ∧ ∀ j, j < ops.size → D j = true := by
  intro fuel
  induction fuel with
  | zero =>
    intro t L ρ1 w1 tm hs hc I
    refine ⟨ρ1, w1, tm, _, by simp [Region.linearise.go]; exact .refl _ _, I, ?_⟩
    intro j hj
    cases hl : L.getD j false with
    | true => rfl
    | false =>
      have : 0 < cntU ops.size L := List.countP_pos_iff.2 ⟨j, by simpa using hj, by simp only [hl]; rfl⟩
      omega
  | succ fuel ih =>
    intro t L ρ1 w1 tm hs hc I
    simp only [Region.linearise.go]
    generalize hrs : (List.filter (fun i => !L.getD i true && (Option.map (fun x => x.after.all fun e => !Region.binds Region.Mode.any e || L.getD e.on false) ops[i]?).getD false) (List.range ops.size)) = rs
    have hmem : ∀ i, i ∈ rs ↔ i < ops.size ∧ L.getD i true = false ∧ ∃ o, ops[i]? = some o ∧ ∀ e ∈ o.after.toList, bindsA e = true → L.getD e.on false = true := by
      intro i
      rw [← hrs, List.mem_filter, List.mem_range]
      constructor
      · rintro ⟨h1, h2⟩
        simp only [Bool.and_eq_true, Bool.not_eq_true'] at h2
        refine ⟨h1, h2.1, ops[i], by simp [h1], ?_⟩
        intro e he hb
        have h3 := h2.2
        simp only [Array.getElem?_eq_getElem h1, Option.map_some, Option.getD_some] at h3
        rw [Array.all_eq_true_iff_forall_mem] at h3
        have := h3 e (by simpa using he)
        rw [bindsA_eq] at hb
        simpa [hb] using this
      · rintro ⟨h1, h2, o, h3, h4⟩
        refine ⟨h1, ?_⟩
        simp only [h2, Bool.not_false, Bool.true_and, h3, Option.map_some, Option.getD_some]
        rw [Array.all_eq_true_iff_forall_mem]
        intro e he
        cases hb : Region.binds .any e with
        | false => simp
        | true => simpa using h4 e (by simpa using he) (by rw [bindsA_eq]; exact hb)
    cases hi : rs[t % rs.length]? with
    | none =>
      have hnil : rs = [] := by
        cases rs with
        | nil => rfl
        | cons x xs =>
          have hlt : t % (x :: xs).length < (x :: xs).length := Nat.mod_lt _ (by simp)
          rw [List.getElem?_eq_getElem hlt] at hi; cases hi
      refine ⟨ρ1, w1, tm, _, by simp; exact .refl _ _, I, ?_⟩
      intro j
      induction j using Nat.strongRecOn with
      | _ j ihj =>
        intro hj
        cases hl : L.getD j false with
        | true => rfl
        | false =>
          exfalso
          have : j ∈ rs := (hmem j).2 ⟨hj, by
            rw [Array.getD_eq_getD_getElem?] at hl ⊢
            rw [Array.getElem?_eq_getElem (by omega)] at hl ⊢
            simpa using hl, ops[j], by simp [hj], fun e he hb => by
            have hlt := edgesOk_ok _ 0 R.edges j ops[j] (by simp [hj]) e he hb
            exact ihj e.on (by omega) (by omega)⟩
          rw [hnil] at this; cases this
    | some i =>
      obtain ⟨h1, h2, o, h3, h4⟩ := (hmem i).1 (List.mem_of_getElem? hi)
      have hf : L.getD i false = false := by
        rw [Array.getD_eq_getD_getElem?] at h2 ⊢
        rw [Array.getElem?_eq_getElem (by omega)] at h2 ⊢
        simpa using h2
      simp only []
      rw [linearise_go_acc, List.reverse_singleton, List.singleton_append]
      have hie : es[i]? = some es[i] := List.getElem?_eq_getElem (by omega)
      obtain ⟨oi, hoi, Fi, hcalm⟩ := hreal i _ hie
      rw [h3] at hoi
      cases hoi
      obtain ⟨ρ2, w2, tm2, hst, I2⟩ := inv_step R I h3 hie Fi hcalm hf h4 fn k ds r cs (Region.linearise.go .any ops fuel (t / rs.length) (L.setIfInBounds i true) [])
      have hfun : (fun j => L.getD j false || decide (j = i)) = (fun j => (L.setIfInBounds i true).getD j false) := by
        funext j; rw [getD_set L i j (by omega)]
      rw [hfun] at I2
      obtain ⟨ρ', w', tm', D, hst2, I3, hall⟩ := ih (t / rs.length) (L.setIfInBounds i true) ρ2 w2 tm2 (by simp [hs]) (by
        have : cntU ops.size (L.setIfInBounds i true) < cntU ops.size L := by
          refine countP_lt _ _ _ ?_ ⟨i, by simpa using h1, by simp [hf], by rw [getD_set L i i (by omega)]; simp⟩
          intro x _ hx
          rw [getD_set L i x (by omega)] at hx
          simp at hx ⊢
          exact hx.1
        omega) I2
      exact ⟨ρ', w', tm', D, Steps.trans hst hst2, I3, hall⟩
theorem belowB_ok {m : Nat} : ∀ {p : Nat}, belowB m p = true → ∀ i, i < p → bitOf m i = true
 | 0, _, i, h => by omega
 | p + 1, hb, i, h => by
  simp only [belowB] at hb
  obtain ⟨h1, h2⟩ := ifb hb
  by_cases e : i = p
  ·subst e; exact h1
  ·exact belowB_ok h2 i (by omega)
theorem chainB_ok {ms : List Nat} : ∀ {n j : Nat}, chainB ms n j = true → ∀ i, j ≤ i → i < j + n → bitOf ((nth ms (i + 1)).getD 0) i = true
 | 0, j, _, i, h1, h2 => by omega
 | n + 1, j, hb, i, h1, h2 => by
  simp only [chainB] at hb
  obtain ⟨h3, h4⟩ := ifb hb
  by_cases e : i = j
  ·subst e; exact h3
  ·exact chainB_ok h4 i (by omega) (by omega)
theorem getD_any {L : Array Bool} {i : Nat} (h : i < L.size) (a b : Bool) : L.getD i a = L.getD i b := by
 rw [Array.getD_eq_getD_getElem?, Array.getD_eq_getD_getElem?, Array.getElem?_eq_getElem h]; rfl
theorem ready_mem (L : Array Bool) (i : Nat) : i ∈ (List.filter (fun i => !L.getD i true && (Option.map (fun x => x.after.all fun e => !Region.binds Region.Mode.any e || L.getD e.on false) ops[i]?).getD false) (List.range ops.size)) ↔ i < ops.size ∧ L.getD i true = false ∧ ∃ o, ops[i]? = some o ∧ ∀ e ∈ o.after.toList, bindsA e = true → L.getD e.on false = true := by
 rw [List.mem_filter, List.mem_range]
 constructor
 ·rintro ⟨h1, h2⟩
  simp only [Bool.and_eq_true, Bool.not_eq_true'] at h2
  refine ⟨h1, h2.1, ops[i], by simp [h1], ?_⟩
  intro e he hb
  have h3 := h2.2
  simp only [Array.getElem?_eq_getElem h1, Option.map_some, Option.getD_some] at h3
  rw [Array.all_eq_true_iff_forall_mem] at h3
  have := h3 e (by simpa using he)
  rw [bindsA_eq] at hb
  simpa [hb] using this
 ·rintro ⟨h1, h2, o, h3, h4⟩
  refine ⟨h1, ?_⟩
  simp only [h2, Bool.not_false, Bool.true_and, h3, Option.map_some, Option.getD_some]
  rw [Array.all_eq_true_iff_forall_mem]
  intro e he
  cases hb : Region.binds .any e with
  | false => simp
  | true => simpa using h4 e (by simpa using he) (by rw [bindsA_eq]; exact hb)
theorem cnt_set {n i : Nat} {L : Array Bool} (hi : i < n) (hs : i < L.size) (hf : L.getD i false = false) : cntU n (L.setIfInBounds i true) < cntU n L := by
 refine countP_lt _ _ _ ?_ ⟨i, by simpa using hi, by simp [hf], by rw [getD_set L i i hs]; simp⟩
 intro x _ hx
 rw [getD_set L i x hs] at hx
 simp at hx ⊢
 exact hx.1
theorem go_tail (hE : edgesOk ops.toList 0 = true) {p : Nat} (hc : ∀ i, p ≤ i → i + 1 < ops.size → bitOf (msk ops (i + 1)) i = true) : ∀ (m fuel t q : Nat) (L : Array Bool), L.size = ops.size → p ≤ q → q + m = ops.size → cntU ops.size L ≤ fuel → (∀ j, j < ops.size → L.getD j false = decide (j < q)) → Region.linearise.go .any ops fuel t L [] = rangeS m q := by
  intro m
  induction m with
  | zero =>
    intro fuel t q L hs hq hm hcnt hL
    cases fuel with
    | zero => simp [Region.linearise.go, rangeS]
    | succ fuel =>
      simp only [Region.linearise.go]
      generalize hrs : (List.filter (fun i => !L.getD i true && (Option.map (fun x => x.after.all fun e => !Region.binds Region.Mode.any e || L.getD e.on false) ops[i]?).getD false) (List.range ops.size)) = rs
      cases hi : rs[t % rs.length]? with
      | none => simp [rangeS]
      | some i =>
        exfalso
        have hmi := List.mem_of_getElem? hi
        rw [← hrs, ready_mem] at hmi
        obtain ⟨h1, h2, _⟩ := hmi
        rw [getD_any (by omega) true false, hL i h1] at h2
        simp at h2; omega
  | succ m ih =>
    intro fuel t q L hs hq hm hcnt hL
    have hqs : q < ops.size := by omega
    have hqf : L.getD q false = false := by rw [hL q hqs]; simp
    cases fuel with
    | zero =>
      exfalso
      have : 0 < cntU ops.size L := List.countP_pos_iff.2 ⟨q, by simpa using hqs, by simp only [hqf]; rfl⟩
      omega
    | succ fuel =>
      simp only [Region.linearise.go]
      generalize hrs : (List.filter (fun i => !L.getD i true && (Option.map (fun x => x.after.all fun e => !Region.binds Region.Mode.any e || L.getD e.on false) ops[i]?).getD false) (List.range ops.size)) = rs
      have hqm : q ∈ rs := by
        rw [← hrs, ready_mem]
        refine ⟨hqs, by rw [getD_any (by omega) true false]; exact hqf, ops[q], by simp [hqs], fun e he hb => ?_⟩
        have hlt := edgesOk_ok _ 0 hE q ops[q] (by simp [hqs]) e he hb
        rw [hL e.on (by omega)]
        simp; omega
      cases hi : rs[t % rs.length]? with
      | none =>
        exfalso
        cases rs with
        | nil => cases hqm
        | cons x xs =>
          have hlt : t % (x :: xs).length < (x :: xs).length := Nat.mod_lt _ (by simp)
          rw [List.getElem?_eq_getElem hlt] at hi; cases hi
      | some i =>
        have hmi := List.mem_of_getElem? hi
        rw [← hrs, ready_mem] at hmi
        obtain ⟨h1, h2, o, h3, h4⟩ := hmi
        rw [getD_any (by omega) true false, hL i h1] at h2
        have hqi : q ≤ i := by simp at h2; omega
        have hiq : i = q := by
          by_cases e : i = q
          · exact e
          · exfalso
            obtain ⟨i', rfl⟩ : ∃ i', i = i' + 1 := ⟨i - 1, by omega⟩
            have hd := msk_done hE (D := fun j => decide (j < q)) (fun j o' hj ho' e he hb => by
              have hj' : j < q := of_decide_eq_true hj
              have hlt := edgesOk_ok _ 0 hE j o' (by simpa using ho') e he hb
              exact decide_eq_true (by omega)) (fun j hj => by have := of_decide_eq_true hj; omega) (i' + 1) o h3 (fun e he hb => by
              have hlt := edgesOk_ok _ 0 hE (i' + 1) o (by simpa using h3) e he hb
              have := h4 e he hb
              rw [hL e.on (by omega)] at this
              exact this) i' (hc i' (by omega) h1)
            have := of_decide_eq_true hd
            omega
        subst hiq
        simp only []
        rw [linearise_go_acc, List.reverse_singleton, List.singleton_append]
        show i :: _ = i :: rangeS m (i + 1)
        congr 1
        refine ih fuel _ (i + 1) (L.setIfInBounds i true) (by simp [hs]) (by omega) (by omega) ?_ ?_
        · have := cnt_set h1 (by omega : i < L.size) hqf
          omega
        · intro j hj
          rw [getD_set L i j (by omega), hL j hj]
          by_cases e1 : j = i
          · subst e1; simp
          · by_cases e2 : j < i
            · simp [e2]; omega
            · simp [e1, e2]; omega
theorem lin_pre (R : Reg P b0 orac ρ ops es slI hI nx N) (hreal : ∀ j e, es[j]? = some e → ∃ o, ops[j]? = some o ∧ Fact P b0 orac ρ ops nx N es slI hI 0 j e o ∧ panV e.val = none) {p : Nat} (hlen : es.length = p) (hp : p < ops.size) (hb : ∀ i, i < p → bitOf (msk ops p) i = true) (hc : ∀ i, p ≤ i → i + 1 < ops.size → bitOf (msk ops (i + 1)) i = true) {w0 : World} (fn : FuncId) (k : List Item) (ds : List Deferred) (r : RK) (cs : List Frame) : ∀ (fuel t : Nat) (L : Array Bool) (ρ1 : Rho) (w1 : World) (tm : Array Value),
    L.size = ops.size → cntU ops.size L ≤ fuel → (∀ i, p ≤ i → L.getD i false = false) → Inv P b0 ρ w0 ops es slI hI nx N (fun i => L.getD i false) ρ1 w1 tm →
    ∃ ρ' w' tm' D, Steps P (lone (fr fn tm (.inRegion ops (Region.linearise.go .any ops fuel t L []) :: k) ds r) cs w1) (lone (fr fn tm' (.inRegion ops (rangeS (ops.size - p) p) :: k) ds r) cs w') ∧ Inv P b0 ρ w0 ops es slI hI nx N D ρ' w' tm' ∧ ∀ j, j < p → D j = true := by
  intro fuel
  induction fuel with
  | zero =>
    intro t L ρ1 w1 tm hs hcn hL I
    exfalso
    have : 0 < cntU ops.size L := List.countP_pos_iff.2 ⟨p, by simpa using hp, by simp only [hL p (Nat.le_refl _)]; rfl⟩
    omega
  | succ fuel ih =>
    intro t L ρ1 w1 tm hs hcn hL I
    by_cases hall : ∀ j, j < p → L.getD j false = true
    · refine ⟨ρ1, w1, tm, _, ?_, I, hall⟩
      rw [go_tail R.edges hc (ops.size - p) (fuel + 1) t p L hs (Nat.le_refl _) (by omega) hcn (fun j hj => by
        by_cases e : j < p
        · rw [hall j e]; simp [e]
        · rw [hL j (by omega)]; simp [e])]
      exact .refl _ _
    · simp only [Region.linearise.go]
      generalize hrs : (List.filter (fun i => !L.getD i true && (Option.map (fun x => x.after.all fun e => !Region.binds Region.Mode.any e || L.getD e.on false) ops[i]?).getD false) (List.range ops.size)) = rs
      have hmem : ∀ i, i ∈ rs ↔ i < ops.size ∧ L.getD i true = false ∧ ∃ o, ops[i]? = some o ∧ ∀ e ∈ o.after.toList, bindsA e = true → L.getD e.on false = true := fun i => by rw [← hrs]; exact ready_mem L i
      cases hi : rs[t % rs.length]? with
      | none =>
        exfalso
        have hnil : rs = [] := by
          cases rs with
          | nil => rfl
          | cons x xs =>
            have hlt : t % (x :: xs).length < (x :: xs).length := Nat.mod_lt _ (by simp)
            rw [List.getElem?_eq_getElem hlt] at hi; cases hi
        refine hall fun j => ?_
        induction j using Nat.strongRecOn with
        | _ j ihj =>
          intro hj
          cases hl : L.getD j false with
          | true => rfl
          | false =>
            exfalso
            have : j ∈ rs := (hmem j).2 ⟨by omega, by rw [getD_any (by omega) true false]; exact hl, ops[j], by simp [show j < ops.size by omega], fun e he hb => by
              have hlt := edgesOk_ok _ 0 R.edges j ops[j] (by simp [show j < ops.size by omega]) e he hb
              exact ihj e.on (by omega) (by omega)⟩
            rw [hnil] at this; cases this
      | some i =>
        obtain ⟨h1, h2, o, h3, h4⟩ := (hmem i).1 (List.mem_of_getElem? hi)
        have hf : L.getD i false = false := by rw [getD_any (by omega) false true]; exact h2
        have hdone := msk_done R.edges I.closed I.inn i o h3 h4
        have hip : i < p := by
          by_cases e : i < p
          · exact e
          · exfalso
            by_cases e2 : i = p
            · subst e2
              exact hall fun j hj => hdone j (hb j hj)
            · obtain ⟨i', rfl⟩ : ∃ i', i = i' + 1 := ⟨i - 1, by omega⟩
              have := hdone i' (hc i' (by omega) h1)
              have h5 := hL i' (by omega)
              have this' : L.getD i' false = true := this
              rw [h5] at this'; cases this'
        simp only []
        rw [linearise_go_acc, List.reverse_singleton, List.singleton_append]
        have hie : es[i]? = some es[i] := List.getElem?_eq_getElem (by omega)
        obtain ⟨oi, hoi, Fi, hcalm⟩ := hreal i _ hie
        rw [h3] at hoi
        cases hoi
        obtain ⟨ρ2, w2, tm2, hst, I2⟩ := inv_step R I h3 hie Fi hcalm hf h4 fn k ds r cs (Region.linearise.go .any ops fuel (t / rs.length) (L.setIfInBounds i true) [])
        have hfun : (fun j => L.getD j false || decide (j = i)) = (fun j => (L.setIfInBounds i true).getD j false) := by
          funext j; rw [getD_set L i j (by omega)]
        rw [hfun] at I2
        obtain ⟨ρ', w', tm', D, hst2, I3, hall2⟩ := ih (t / rs.length) (L.setIfInBounds i true) ρ2 w2 tm2 (by simp [hs]) (by
          have := cnt_set h1 (by omega : i < L.size) hf
          omega) (fun j hj => by rw [getD_set L i j (by omega), hL j hj]; simp; omega) I2
        exact ⟨ρ', w', tm', D, Steps.trans hst hst2, I3, hall2⟩
theorem lin_pan (R : Reg P b0 orac ρ ops es slI hI nx N) (hlen : es.length = ops.size) {j : Nat} (hj : j < ops.size) (hreal : ∀ i a, es[i]? = some a → i ≠ j → bitOf (msk ops i) j = false → ∃ o, ops[i]? = some o ∧ Fact P b0 orac ρ ops nx N es slI hI 0 i a o ∧ panV a.val = none)
    {w0 : World} (fn : FuncId) (k : List Item) (ds : List Deferred) (r : RK) (cs : List Frame) : ∀ (fuel t : Nat) (L : Array Bool) (ρ1 : Rho) (w1 : World) (tm : Array Value),
    L.size = ops.size → cntU ops.size L ≤ fuel → L.getD j false = false → Inv P b0 ρ w0 ops es slI hI nx N (fun i => L.getD i false) ρ1 w1 tm →
    ∃ ρ' w' tm' D rest, Steps P (lone (fr fn tm (.inRegion ops (Region.linearise.go .any ops fuel t L []) :: k) ds r) cs w1) (lone (fr fn tm' (.inRegion ops (j :: rest) :: k) ds r) cs w') ∧ Inv P b0 ρ w0 ops es slI hI nx N D ρ' w' tm' ∧ D j = false ∧ ∀ o, ops[j]? = some o → ∀ e ∈ o.after.toList, bindsA e = true → D e.on = true := by
  intro fuel
  induction fuel with
  | zero =>
    intro t L ρ1 w1 tm hs hcn hL I
    exfalso
    have : 0 < cntU ops.size L := List.countP_pos_iff.2 ⟨j, by simpa using hj, by simp only [hL]; rfl⟩
    omega
  | succ fuel ih =>
    intro t L ρ1 w1 tm hs hcn hL I
    simp only [Region.linearise.go]
    generalize hrs : (List.filter (fun i => !L.getD i true && (Option.map (fun x => x.after.all fun e => !Region.binds Region.Mode.any e || L.getD e.on false) ops[i]?).getD false) (List.range ops.size)) = rs
    have hmem : ∀ i, i ∈ rs ↔ i < ops.size ∧ L.getD i true = false ∧ ∃ o, ops[i]? = some o ∧ ∀ e ∈ o.after.toList, bindsA e = true → L.getD e.on false = true := fun i => by rw [← hrs]; exact ready_mem L i
    cases hi : rs[t % rs.length]? with
    | none =>
      exfalso
      have hnil : rs = [] := by
        cases rs with
        | nil => rfl
        | cons x xs =>
          have hlt : t % (x :: xs).length < (x :: xs).length := Nat.mod_lt _ (by simp)
          rw [List.getElem?_eq_getElem hlt] at hi; cases hi
      have hall : ∀ j, j < ops.size → L.getD j false = true := by
        intro j
        induction j using Nat.strongRecOn with
        | _ j ihj =>
          intro hj
          cases hl : L.getD j false with
          | true => rfl
          | false =>
            exfalso
            have : j ∈ rs := (hmem j).2 ⟨by omega, by rw [getD_any (by omega) true false]; exact hl, ops[j], by simp [show j < ops.size by omega], fun e he hb => by
              have hlt := edgesOk_ok _ 0 R.edges j ops[j] (by simp [show j < ops.size by omega]) e he hb
              exact ihj e.on (by omega) (by omega)⟩
            rw [hnil] at this; cases this
      rw [hall j hj] at hL
      cases hL
    | some i =>
      obtain ⟨h1, h2, o, h3, h4⟩ := (hmem i).1 (List.mem_of_getElem? hi)
      have hf : L.getD i false = false := by rw [getD_any (by omega) false true]; exact h2
      have hdone := msk_done R.edges I.closed I.inn i o h3 h4
      simp only []
      rw [linearise_go_acc, List.reverse_singleton, List.singleton_append]
      by_cases hij : i = j
      · subst hij
        refine ⟨ρ1, w1, tm, _, _, .refl _ _, I, hf, ?_⟩
        intro o' ho'
        rw [h3] at ho'
        cases ho'
        exact h4
      · have hie : es[i]? = some es[i] := List.getElem?_eq_getElem (by omega)
        obtain ⟨oi, hoi, Fi, hcalm⟩ := hreal i _ hie hij (by
          cases hb : bitOf (msk ops i) j with
          | false => rfl
          | true =>
            have := hdone j hb
            rw [hL] at this; cases this)
        rw [h3] at hoi
        cases hoi
        obtain ⟨ρ2, w2, tm2, hst, I2⟩ := inv_step R I h3 hie Fi hcalm hf h4 fn k ds r cs (Region.linearise.go .any ops fuel (t / rs.length) (L.setIfInBounds i true) [])
        have hfun : (fun j => L.getD j false || decide (j = i)) = (fun j => (L.setIfInBounds i true).getD j false) := by
          funext j; rw [getD_set L i j (by omega)]
        rw [hfun] at I2
        obtain ⟨ρ', w', tm', D, rest, hst2, I3, h5, h6⟩ := ih (t / rs.length) (L.setIfInBounds i true) ρ2 w2 tm2 (by simp [hs]) (by
          have := cnt_set h1 (by omega : i < L.size) hf
          omega) (by rw [getD_set L i j (by omega), hL]; simp; exact fun h => hij h.symm) I2
        exact ⟨ρ', w', tm', D, rest, Steps.trans hst hst2, I3, h5, h6⟩
theorem core_move (R : Reg P b0 orac ρ ops es slI hI nx N) {w0 w1 w' : World} {D : Nat → Bool} {ρ1 ρ' : Rho} {tm : Array Value} (I : Inv P b0 ρ w0 ops es slI hI nx N D ρ1 w1 tm) {j : Nat} {o : Oper} {e : Eff}
  (F : Fact P b0 orac ρ ops nx N es slI hI 0 j e o) (K : Core b0 ops es slI hI D ρ1 w1 e ρ' w') (hle : nx ≤ N) {h h' : SHeap} (hhI : hI = lk h) (hpart : ∀ n q, lk h' n = some q → apH e n (stX apH es D ops.size n (hI n)) = some q) :
  Move ρ ρ' b0 h h' nx N w0 w' := by
 have g := K.g
 have hs := I.same.trans g.same
 refine ⟨⟨hs.i, hs.b, hs.l, hs.v, hs.z, ?_⟩, hle, K.H.part hpart, Nat.le_trans I.size K.sz, ?_, ?_, ?_⟩
 ·intro n hn
  have h1 := F.lo
  have h2 := F.hi
  rw [g.a n (by omega)]; exact I.a n hn
 ·intro kk hkk hne
  rw [← I.blocks kk hkk (by rw [hhI]; exact hne)]
  refine K.sm kk (Nat.lt_of_lt_of_le hkk I.size) ?_
  intro n q hq heq
  rcases I.dom n q hq with ⟨p, hp⟩ | ⟨c1, c2, c3⟩
  ·rw [I.a n (.inl (R.hN n p hp).1)] at heq
   exact hne n p (by rw [← hhI]; exact hp) heq
  ·rcases c3 with c3 | ⟨m, p, m1, m2⟩
   ·omega
   ·exact hne m p (by rw [← hhI]; exact m1) (by rw [← m2]; exact heq)
 ·intro x q hq
  have hq := hpart x q hq
  rw [← hhI]
  unfold apH at hq
  have key : ∀ p, stX apH es D ops.size x (hI x) = some p → (∃ p, hI x = some p) ∨ (nx ≤ x ∧ x < N ∧ (w0.heap.size ≤ ρ'.a x ∨ ∃ m p, hI m = some p ∧ ρ'.a x = ρ.a m)) := by
   intro p hp
   rcases I.dom x p hp with h | ⟨c1, c2, c3⟩
   ·exact .inl h
   ·exact .inr ⟨c1, c2, by rw [g.a x (K.frH x p hp).1]; exact c3⟩
  cases h1 : lk e.made x with
  | some p =>
   obtain ⟨c1, c2, c3⟩ := K.md x (by simp [h1])
   refine .inr ⟨Nat.le_trans F.lo c1, Nat.lt_of_lt_of_le c2 F.hi, ?_⟩
   rcases c3 with c3 | ⟨m, q2, m1, m2, m3⟩
   ·exact .inl (Nat.le_trans I.size c3)
   ·rw [m3]
    rcases I.dom m q2 m2 with ⟨q3, hq3⟩ | ⟨_, _, d3⟩
    ·exact .inr ⟨m, q3, hq3, I.a m (.inl (R.hN m q3 hq3).1)⟩
    ·exact d3
  | none =>
   simp only [h1] at hq
   cases h2 : lk e.writes x with
   | some p =>
    obtain ⟨p2, hp2⟩ := Option.isSome_iff_exists.1 (K.wr x (by simp [h2])).2
    exact key p2 hp2
   | none =>
    simp only [h2] at hq
    split at hq
    ·cases hq
    exact key q hq
 ·-- names
  have old : ∀ x q, stX apH es D ops.size x (hI x) = some q → x < N ∧ ∀ y ∈ q.names, y < N := by
   intro x q hq
   rcases stX_from (W := WH) apH_from es D ops.size x (hI x) q hq with h | ⟨i, a, u, ha, hd, hw, hu⟩
   ·obtain ⟨h1, h2⟩ := R.hN x q h
    exact ⟨Nat.lt_of_lt_of_le h1 hle, fun y hy => Nat.lt_of_lt_of_le (h2 y hy) hle⟩
   ·have hm := apH_val hw hu
    obtain ⟨_, _, Fi, _⟩ := (R.facts i a ha).resolve_left (fun hdm => hdm.H x hw)
    have hw := apH_W hw hu
    have h3 := Fi.hi
    have h4 := Fi.lh
    refine ⟨?_, fun y hy => Nat.lt_of_lt_of_le (Fi.objs x q hm y hy) h3⟩
    rcases hw with hw | hw
    ·exact Nat.lt_of_lt_of_le (Fi.made x hw).2 h3
    ·obtain ⟨_, hs⟩ := Fi.wr x hw
     obtain ⟨p, hp⟩ := Option.isSome_iff_exists.1 hs
     have := (Fi.st x p hp).1
     omega
  intro x q hq
  have hq := hpart x q hq
  have h3 := F.hi
  have h4 := F.lh
  by_cases hw : WH e x
  ·have hm := apH_val hw hq
   refine ⟨?_, fun y hy => Nat.lt_of_lt_of_le (F.objs x q hm y hy) h3⟩
   rcases apH_W hw hq with hw | hw
   ·exact Nat.lt_of_lt_of_le (F.made x hw).2 h3
   ·obtain ⟨_, hs⟩ := F.wr x hw
    obtain ⟨p, hp⟩ := Option.isSome_iff_exists.1 hs
    have := (F.st x p hp).1
    omega
  ·rw [apH_id hw] at hq
   exact old x q hq
end
section
variable {P : Program} {T : Tab} {b0 : World} {sub : Cfg → Out} {ρ : Rho}
theorem allOk_ok {ms : List Nat} {l : List RLeaf} (h : allOk T ms l = true) : ∀ r ∈ l, memOk r.effs ms r.effs 0 = true ∧ pjOk ms r = true := by
  induction l with
  | nil => simp
  | cons r l ih =>
    simp only [allOk] at h
    split at h
    · rename_i h1
      split at h
      · rename_i h2
        intro r' hr
        rcases List.mem_cons.1 hr with rfl | hr
        · exact ⟨h1, h2⟩
        · exact ih h r' hr
      · cases h
    · cases h
theorem noPj_ok : ∀ {l : List RLeaf}, noPj l = true → ∀ r ∈ l, r.pj = none
 | [], _, r, hr => by simp at hr
 | x :: l, h, r, hr => by
  simp only [noPj] at h
  split at h
  ·rename_i h1
   rcases List.mem_cons.1 hr with rfl | hr
   ·exact h1
   ·exact noPj_ok h r hr
  ·cases h
theorem inv_0 {ops : Array Oper} {effs : List Eff} {h : SHeap} {sl : Slots} {nx N : Nat} {w : World} {tm : Array Value} (H : HeapR ρ b0 h w) (hsl : SlotsR ρ sl tm) :
  Inv P b0 ρ w ops effs (get2 sl) (lk h) nx N (fun i => (Array.replicate ops.size false).getD i false) ρ { w with drawn := w.drawn + 1 } tm := by
 have hf : ∀ i, (Array.replicate ops.size false).getD i false = false := by
  intro i
  rw [Array.getD_eq_getD_getElem?, Array.getElem?_replicate]
  split <;> rfl
 have hz : ∀ {V : Type} (ap : Eff → Nat → Option V → Option V) (W : Eff → Nat → Prop) (hid : ∀ e x v, ¬ W e x → ap e x v = v) (x : Nat) (v : Option V), stX ap effs (fun i => (Array.replicate ops.size false).getD i false) ops.size x v = v := by
  intro V ap W hid x v
  rw [← stX_zero ap effs (fun i => (Array.replicate ops.size false).getD i false) x v]
  conv => lhs; rw [stX_zero]
  exact stX_agree hid _ _ _ _ _ _ _ (fun i e _ _ => by simp [hf])
 refine ⟨.refl ρ, fun n _ => rfl, fun j hj => (by rw [hf] at hj; cases hj), fun j o hj => (by rw [hf] at hj; cases hj), ?_, ?_, Nat.le_refl _, fun _ _ _ => rfl, ?_⟩
 ·intro t; rw [hz apS WS (fun e x v h => apS_id h v)]; exact hsl t
 ·have : (fun x => stX apH effs (fun i => (Array.replicate ops.size false).getD i false) ops.size x (lk h x)) = lk h := funext fun x => hz apH WH (fun e x v h => apH_id h v) x _
  rw [this]; exact drewN_heap H
 ·intro x o hx
  rw [hz apH WH (fun e x v h => apH_id h v)] at hx
  exact .inl ⟨o, hx⟩
theorem slots_dom {sl : Slots} {tm : Array Value} (hsl : SlotsR ρ sl tm) : Dom tm.size sl := by
 intro i
 have := hsl i
 by_cases hi : i < tm.size
 ·rw [Array.getElem?_eq_getElem hi] at this
  cases hg : get2 sl i <;> simp [hg] at this ⊢
  omega
 ·rw [Array.getElem?_eq_none (by omega)] at this
  cases hg : get2 sl i <;> simp [hg] at this ⊢
  omega
theorem region_ok (hT : T.Ok P) (hs : SubOk P b0 T.orac sub) (hρ : ρ.Ok) (hO : OracOk P b0 T.orac ρ) {ops : Array Oper} (hops : slotsOk ops = true) {fuel : Nat} {pc : List BE} {sl : Slots} {h : SHeap} {nx : Nat} {rls : List RLeaf} {w : World} {tm : Array Value}
  (hp : Holds ρ pc) (H : HeapR ρ b0 h w) (hn : HNames nx h) (hsl : SlotsR ρ sl tm) (hsn : SNames nx sl) (hr : region T sub fuel pc ops.toList sl h nx = .leaves rls) (fn : FuncId) (id : Nat) (k : List Item) (ds : List Deferred) (r : RK) (cs : List Frame) :
  PcOk T.orac.F RLeaf.pc pc rls ∧ ∃ rl ∈ rls, Holds ρ rl.pc ∧
   (rl.pj = none → ∃ ρ' w' tm', Steps P (lone (fr fn tm (.code (.region id ops true) :: k) ds r) cs w) (lone (fr fn tm' k ds r) cs w') ∧
    SlotsR ρ' rl.sl tm' ∧ SNames rl.next rl.sl ∧ Move ρ ρ' b0 h rl.heap nx rl.next w w') ∧
   (∀ q, rl.pj = some q → ∃ ρ' w' tm' td, Steps P (lone (fr fn tm (.code (.region id ops true) :: k) ds r) cs w) (lone { fr fn tm' td ds r with mode := .panicking [{ v := q.v.den ρ', recovered := false }] } cs w') ∧
    NamesV rl.next q.v ∧ Move ρ ρ' b0 h (finP (masks ops.toList []) q rl.effs h) nx rl.next w w') := by
 obtain ⟨e1, e2, e3⟩ := slotsOk_ok hops
 unfold region at hr
 rw [fL_eq] at hr
 split at hr
 ·rename_i ls hls
  split at hr
  ·rename_i hall
   cases hr
   obtain ⟨hpc, htr⟩ := regGo_ok (fun C ls h => (hs C ls h).1) hT.posts _ _ _ _ _ _ _ _ _ _ hls
   refine ⟨hpc, ?_⟩
   obtain ⟨rl, hrl, hh⟩ := hpc.some ρ ⟨hρ, hO.F⟩ hp
   refine ⟨rl, hrl, hh, ?_⟩
   obtain ⟨effs, he, ht⟩ := htr rl hrl
   simp at he
   subst he
   obtain ⟨hmem, hpj⟩ := allOk_ok hall rl hrl
   have hdom : Dom tm.size sl := slots_dom hsl
   have C := trace_facts hT hs hρ hO e2 ht hh tm.size [] (by simp) hdom ⟨ρ, w, .refl ρ, H⟩ hn hsn
   have R : Reg P b0 T.orac ρ ops rl.effs (get2 sl) (lk h) nx rl.next := by
    refine ⟨e1, e3, Nat.le_of_eq (by rw [C.len]; simp), ?_, C.order, ?_, fun t v hv => hsn t v hv, hn⟩
    ·intro j e he
     rcases C.facts j e he with ⟨h1, _⟩ | ⟨o, h1, h2⟩
     ·exact .inl h1
     ·exact .inr ⟨o, by simpa using h1, h2⟩
    ·intro i a j b ha hb hne
     have := memOk_ok rl.effs (masks ops.toList []) rl.effs 0 hmem i a ha j b hb (by omega)
     simpa [msk] using this
   have hlen : rl.effs.length = ops.size := by rw [C.len]; simp
   have hsch : Region.schedule (P.follows .mixedOrders) ops (w.tape w.drawn (.order fn id)) = Region.linearise.go .any ops ops.size (w.tape w.drawn (.order fn id)) (Array.replicate ops.size false) [] := by
    simp [Region.schedule, hT.mixed, Region.linearise]
   refine ⟨fun hq => ?_, fun q hq => ?_⟩
   ·have hreal : ∀ j e, rl.effs[j]? = some e → ∃ o, ops[j]? = some o ∧ Fact P b0 T.orac ρ ops nx rl.next rl.effs (get2 sl) (lk h) 0 j e o ∧ panV e.val = none := by
     intro j e he
     rcases C.facts j e he with ⟨_, q, h1, _⟩ | ⟨o, h1, h2⟩
     ·rw [hq] at h1; cases h1
     ·exact ⟨o, by simpa using h1, h2⟩
    obtain ⟨ρ', w', tm', D, hst, I, hDall⟩ := lin_ok R hlen hreal fn k ds r cs ops.size (w.tape w.drawn (.order fn id)) (Array.replicate ops.size false) ρ _ tm (by simp) (by unfold cntU; exact Nat.le_trans List.countP_le_length (by simp)) (inv_0 H hsl)
    have hDS : ∀ {V : Type} (ap : Eff → Nat → Option V → Option V) (W : Eff → Nat → Prop) (hid : ∀ e x v, ¬ W e x → ap e x v = v) (x : Nat) (v : Option V), stX ap rl.effs D ops.size x v = stX ap rl.effs all rl.effs.length x v := by
     intro V ap W hid x v
     refine stX_agree hid _ _ _ _ _ _ _ (fun i e he _ => ?_)
     have hi : i < rl.effs.length := (List.getElem?_eq_some_iff.1 he).1
     have hi2 : i < ops.size := Nat.lt_of_lt_of_le hi R.len
     simp [hi, hi2, hDall i hi2, all]
    refine ⟨ρ', w', tm', ?_, ?_, C.sn, ?_⟩
    ·refine .head st_draw ?_
     rw [hsch]
     exact Steps.trans hst (.one st_region_end)
    ·intro t
     rw [C.slots t, ← hDS apS WS (fun e x v h => apS_id h v)]
     exact I.slots t
    ·have hheap : (fun x => stX apH rl.effs D ops.size x (lk h x)) = lk rl.heap := by
      funext x
      rw [C.heap x, hDS apH WH (fun e x v h => apH_id h v)]
     have hIH := I.heap
     rw [hheap] at hIH
     refine ⟨⟨I.same.i, I.same.b, I.same.l, I.same.v, I.same.z, I.a⟩, C.le, hIH, I.size, I.blocks, ?_, C.hn⟩
     intro x o hx
     rw [← hheap] at hx
     exact I.dom x o hx
   ·rcases C.pan q hq with h0 | ⟨j, o, h1, h2, F, h4, h5, d, h6, h7⟩
    ·cases h0
    rw [Nat.zero_add] at h1 h2
    have hj : j < ops.size := (Array.getElem?_eq_some_iff.1 h2).1
    have hag : ∀ i a, rl.effs[i]? = some a → i ≠ j → bitOf (msk ops i) j = true ∨ bitOf (msk ops j) i = true ∨ (Free a q.e ∧ Free q.e a ∧ a.writes = [] ∧ a.gone = []) := by
     intro i a ha hij
     unfold pjOk at hpj
     rw [hq] at hpj
     have := againstP_ok rl.effs 0 hpj i a ha (by omega)
     simpa [msk, h1] using this
    obtain ⟨ρ1, w1, tm1, D, rest, hst, I, hDj, hready⟩ := lin_pan R hlen hj (fun i a ha hij hb => by
     rcases C.facts i a ha with ⟨_, q', g1, g2⟩ | ⟨o', g1, g2⟩
     ·exfalso
      rw [hq] at g1
      cases g1
      rw [h1] at g2
      rcases g2 with g2 | g2
      ·omega
      ·rw [Nat.zero_add] at g2
       unfold msk at hb
       rw [hb] at g2; cases g2
     ·exact ⟨o', by simpa using g1, g2⟩) fn k ds r cs ops.size (w.tape w.drawn (.order fn id)) (Array.replicate ops.size false) ρ _ tm (by simp) (by unfold cntU; exact Nat.le_trans List.countP_le_length (by simp)) (by rw [Array.getD_eq_getD_getElem?, Array.getElem?_replicate]; split <;> rfl) (inv_0 H hsl)
    obtain ⟨ρ', w', hst2, K⟩ := inv_core R I h2 F (fun i a ha hij => (hag i a ha hij).imp_right fun h => h.imp_right fun h => ⟨h.1, h.2.1⟩) (fun i a ha => h5 i a ha) hDj (hready o h2) fn k ds r cs rest
    rw [endFr_p h4] at hst2
    have hdone := msk_done R.edges I.closed I.inn
    refine ⟨ρ', w', tm1, .inRegion ops (j :: rest) :: k, ?_, ?_, ?_⟩
    ·refine .head st_draw ?_
     rw [hsch]
     exact Steps.trans hst hst2
    ·intro n hn
     have hv := panV_some h4
     refine Nat.lt_of_lt_of_le (F.val n ?_) F.hi
     rw [hv]; simpa [mkPan, SV.names] using hn
    ·refine core_move R I F K C.le rfl ?_
     intro n x hx
     unfold finP at hx
     rw [fL_eq] at hx
     obtain ⟨hno, hx⟩ := pickN_ok hx
     rw [← hx]
     congr 1
     refine stX_agree (W := WH) (fun e x v h => apH_id h v) _ _ _ _ _ _ _ (fun i a ha hw => ?_)
     have hi : i < rl.effs.length := (List.getElem?_eq_some_iff.1 ha).1
     have hi2 : i < ops.size := Nat.lt_of_lt_of_le hi R.len
     simp only [hi, hi2, decide_true, Bool.true_and]
     show D i = bitOf ((nth (masks ops.toList []) q.j).getD 0) i
     rw [h1]
     show D i = bitOf (msk ops j) i
     cases hb : bitOf (msk ops j) i with
     | true => exact hdone j o h2 (hready o h2) i hb
     | false =>
      cases hD : D i with
      | false => rfl
      | true =>
       exfalso
       by_cases hij : i = j
       ·subst hij
        rw [hDj] at hD; cases hD
       ·rcases hag i a ha hij with g1 | g1 | ⟨_, _, g3, g4⟩
        ·have := hdone i ops[i] (by simp [hi2]) (I.closed i ops[i] hD (by simp [hi2])) j g1
         rw [hDj] at this; cases this
        ·rw [hb] at g1; cases g1
        ·rcases hw with hw | hw | hw
         ·exact hno (madeP_false rl.effs 0 i a ha (by rw [Nat.zero_add, h1]; exact hb) hw)
         ·rw [g3] at hw; simp [lk_nil] at hw
         ·rw [g4] at hw; simp [memN] at hw
  ·cases hr
 ·rename_i hh
  exact absurd hr (hh _)
theorem region_pre (hT : T.Ok P) (hs : SubOk P b0 T.orac sub) (hρ : ρ.Ok) (hO : OracOk P b0 T.orac ρ) {ops : Array Oper} (hops : slotsOk ops = true) {fuel p : Nat} {pc : List BE} {sl : Slots} {h : SHeap} {nx : Nat} {rls : List RLeaf} {w : World} {tm : Array Value}
  (hp : Holds ρ pc) (H : HeapR ρ b0 h w) (hn : HNames nx h) (hsl : SlotsR ρ sl tm) (hsn : SNames nx sl) (hr : regionPre T sub fuel pc ops.toList sl h nx p = .leaves rls) (fn : FuncId) (id : Nat) (k : List Item) (ds : List Deferred) (r : RK) (cs : List Frame) :
  PcOk T.orac.F RLeaf.pc pc rls ∧ ∃ rl ∈ rls, Holds ρ rl.pc ∧ ∃ ρ' w' tm', Steps P (lone (fr fn tm (.code (.region id ops true) :: k) ds r) cs w) (lone (fr fn tm' (.inRegion ops (rangeS (ops.size - p) p) :: k) ds r) cs w') ∧
   SlotsR ρ' rl.sl tm' ∧ SNames rl.next rl.sl ∧ Move ρ ρ' b0 h rl.heap nx rl.next w w' := by
 obtain ⟨e1, e2, e3⟩ := slotsOk_ok hops
 unfold regionPre at hr
 split at hr
 rotate_left
 ·cases hr
 rename_i hone
 unfold oneLine at hone
 rw [fL_eq] at hone
 obtain ⟨o1, o2⟩ := ifb hone
 obtain ⟨o3, o4⟩ := ifb o2
 have hpn : p < ops.size := by simpa [Nat.blt_eq] using o1
 have hb : ∀ i, i < p → bitOf (msk ops p) i = true := belowB_ok o3
 have hc : ∀ i, p ≤ i → i + 1 < ops.size → bitOf (msk ops (i + 1)) i = true := fun i h1 h2 => chainB_ok o4 i h1 (by simp only [Array.length_toList]; omega)
 rw [fL_eq] at hr
 split at hr
 ·rename_i ls hls
  split at hr
  ·rename_i hall
   split at hr
   rotate_left
   ·cases hr
   rename_i hnp
   cases hr
   obtain ⟨hpc, htr⟩ := regGo_ok (fun C ls h => (hs C ls h).1) hT.posts _ _ _ _ _ _ _ _ _ _ hls
   refine ⟨hpc, ?_⟩
   obtain ⟨rl, hrl, hh⟩ := hpc.some ρ ⟨hρ, hO.F⟩ hp
   refine ⟨rl, hrl, hh, ?_⟩
   obtain ⟨effs, he, ht⟩ := htr rl hrl
   simp at he
   subst he
   obtain ⟨hmem, _⟩ := allOk_ok hall rl hrl
   have hq := noPj_ok hnp rl hrl
   have hdom : Dom tm.size sl := slots_dom hsl
   have C := trace_facts hT hs hρ hO e2 ht hh tm.size (ops.toList.drop p) (by simp) hdom ⟨ρ, w, .refl ρ, H⟩ hn hsn
   have R : Reg P b0 T.orac ρ ops rl.effs (get2 sl) (lk h) nx rl.next := by
    refine ⟨e1, e3, (by rw [C.len]; simp; omega), ?_, C.order, ?_, fun t v hv => hsn t v hv, hn⟩
    ·intro j e he
     rcases C.facts j e he with ⟨h1, _⟩ | ⟨o, h1, h2⟩
     ·exact .inl h1
     ·exact .inr ⟨o, by simpa using h1, h2⟩
    ·intro i a j b ha hb hne
     have := memOk_ok rl.effs (masks ops.toList []) rl.effs 0 hmem i a ha j b hb (by omega)
     simpa [msk] using this
   have hreal : ∀ j e, rl.effs[j]? = some e → ∃ o, ops[j]? = some o ∧ Fact P b0 T.orac ρ ops nx rl.next rl.effs (get2 sl) (lk h) 0 j e o ∧ panV e.val = none := by
    intro j e he
    rcases C.facts j e he with ⟨_, q, h1, _⟩ | ⟨o, h1, h2⟩
    ·rw [hq] at h1; cases h1
    ·exact ⟨o, by simpa using h1, h2⟩
   obtain ⟨ρ', w', tm', D, hst, I, hDall⟩ := lin_pre R hreal (p := p) (by rw [C.len]; simp; omega) hpn hb hc fn k ds r cs ops.size (w.tape w.drawn (.order fn id)) (Array.replicate ops.size false) ρ _ tm (by simp) (by unfold cntU; exact Nat.le_trans List.countP_le_length (by simp)) (fun i _ => by rw [Array.getD_eq_getD_getElem?, Array.getElem?_replicate]; split <;> rfl) (inv_0 H hsl)
   have hDS : ∀ {V : Type} (ap : Eff → Nat → Option V → Option V) (W : Eff → Nat → Prop) (hid : ∀ e x v, ¬ W e x → ap e x v = v) (x : Nat) (v : Option V), stX ap rl.effs D ops.size x v = stX ap rl.effs all rl.effs.length x v := by
    intro V ap W hid x v
    refine stX_agree hid _ _ _ _ _ _ _ (fun i e he _ => ?_)
    have hi : i < rl.effs.length := (List.getElem?_eq_some_iff.1 he).1
    have hi2 : i < ops.size := Nat.lt_of_lt_of_le hi R.len
    simp [hi, hi2, hDall i (by have := C.len; simp at this; omega), all]
   refine ⟨ρ', w', tm', ?_, ?_, C.sn, ?_⟩
   ·refine .head st_draw ?_
    rw [show Region.schedule (P.follows .mixedOrders) ops (w.tape w.drawn (.order fn id)) = Region.linearise.go .any ops ops.size (w.tape w.drawn (.order fn id)) (Array.replicate ops.size false) [] by
     simp [Region.schedule, hT.mixed, Region.linearise]]
    exact hst
   ·intro t
    rw [C.slots t, ← hDS apS WS (fun e x v h => apS_id h v)]
    exact I.slots t
   ·have hheap : (fun x => stX apH rl.effs D ops.size x (lk h x)) = lk rl.heap := by
     funext x
     rw [C.heap x, hDS apH WH (fun e x v h => apH_id h v)]
    have hIH := I.heap
    rw [hheap] at hIH
    refine ⟨⟨I.same.i, I.same.b, I.same.l, I.same.v, I.same.z, I.a⟩, C.le, hIH, I.size, I.blocks, ?_, C.hn⟩
    intro x o hx
    rw [← hheap] at hx
    exact I.dom x o hx
  ·cases hr
 ·rename_i hh
  exact absurd hr (hh _)
end
end Go.Proofs.Ythenenacmiiphaa.Sx
namespace Go.Proofs.Ythenenacmiiphaa.Sx
open Go
section
variable {P : Program} {T : Tab} {b0 : World} {sub : Cfg → Out} {ρ : Rho} {w : World} {f : Frame} {fs : List Frame} {C : Cfg}
def NextOk (P : Program) (b0 : World) (ρ : Rho) (C : Cfg) (w : World) (f : Frame) (fs cs : List Frame) (C' : Cfg) : Prop :=
 ∃ ρ' w' f' fs', CfgR ρ' b0 C' w' f' fs' ∧ Move ρ ρ' b0 C.heap C'.heap C.next C'.next w w' ∧ Steps P (lone f (fs ++ cs) w) (lone f' (fs' ++ cs) w') ∧ bot C'.top C'.rest = bot C.top C.rest
def ResOk (P : Program) (F : Fns) (b0 : World) (ρ : Rho) (C : Cfg) (w : World) (f : Frame) (fs cs : List Frame) : Res → Prop
 | .next C' => C'.pc = C.pc ∧ NextOk P b0 ρ C w f fs cs C'
 | .many l => PcOk F Cfg.pc C.pc l ∧ ∃ C' ∈ l, NextOk P b0 ρ C w f fs cs C'
 | .done v => C.rest = [] ∧ f.leaving P w (endS ρ v) ∧ f.fn = C.top.fn ∧ NamesV C.next v
 | .split _ => True
 | .fail _ => True
theorem bot_top {a b : SFrame} (h : a.fn = b.fn) : ∀ l, bot a l = bot b l
 | [] => h
 | _ :: _ => rfl
theorem frame_run {N : Nat} {s : SFrame} (h : FrameR ρ N s f) (hr : s.md.st = .run) : f = fr s.fn f.tmps (s.todo.map (SItem.den ρ)) (dfs ρ s) (rk ρ s) := by
 have := h.eq
 rw [hr] at this
 simpa [ssDen] using this
theorem todo_ok (R : CfgR ρ b0 C w f fs) (hr : C.top.md.st = .run) {i : SItem} {k0 k : List SItem} (ht : C.top.todo = i :: k0) (cs : List Frame)
  (hst : ∀ cs, step P (lone (fr C.top.fn f.tmps (i.den ρ :: k0.map (SItem.den ρ)) (dfs ρ C.top) (rk ρ C.top)) cs w) = .next (lone (fr C.top.fn f.tmps (k.map (SItem.den ρ)) (dfs ρ C.top) (rk ρ C.top)) cs w))
  (hk : ∀ j ∈ k, j.okI C.next) : ResOk P T.orac.F b0 ρ C w f fs cs (todo C k) := by
 have hf := frame_run R.top hr
 rw [ht] at hf
 refine ⟨rfl, ρ, w, fr C.top.fn f.tmps (k.map (SItem.den ρ)) (dfs ρ C.top) (rk ρ C.top), fs, ⟨⟨?_, R.top.slots, R.top.names, hk, R.top.defs, R.top.rnd, ?_, R.top.mn⟩, R.rest, R.heap, R.names, R.pc⟩, Move.rfl' R.heap R.names, ?_, (bot_top (b := C.top) (by rfl) C.rest)⟩
 ·simp [hr, dfs, rk, ssDen]
 ·intro h; exact R.top.rr h
 ·rw [hf]; exact .one (hst _)
theorem exitS_den (id : Nat) : ∀ k : List SItem, exitTo id (k.map (SItem.den ρ)) = (exitS id k).map (List.map (SItem.den ρ))
 | [] => rfl
 | i :: k => by
  cases i <;> simp only [List.map_cons, SItem.den, exitTo, exitS, exitS_den id k]
  rename_i i
  by_cases h : i = id
  ·subst h; simp
  ·have h1 : (id == i) = false := by simp; exact fun e => h e.symm
   have h2 : Nat.beq i id = false := by cases hb : Nat.beq i id <;> simp_all
   simp [h2]
   intro e
   first | exact absurd e h | exact absurd e.symm h
theorem gotoS_den (l : Nat) : ∀ k : List SItem, gotoIn l (k.map (SItem.den ρ)) = (gotoS l k).map (List.map (SItem.den ρ))
 | [] => rfl
 | i :: k => by
  cases i <;> simp only [List.map_cons, SItem.den, gotoIn, gotoS, gotoS_den l k]
  rename_i b
  cases findLabel b l <;> simp [SItem.den]
theorem exitS_ok {N : Nat} (id : Nat) : ∀ (k k' : List SItem), exitS id k = some k' → (∀ j ∈ k, j.okI N) → ∀ j ∈ k', j.okI N
 | [], k', h => by simp [exitS] at h
 | i :: k, k', h => by
  intro hk
  have hk2 : ∀ j ∈ k, j.okI N := fun j hj => hk j (List.mem_cons_of_mem _ hj)
  cases i <;> simp only [exitS] at h <;> try exact exitS_ok id k k' h hk2
  split at h
  ·cases h; exact hk2
  ·exact exitS_ok id k k' h hk2
theorem findLabel_ok (l : Nat) : ∀ (c rest : Code), findLabel c l = some rest → codeOk c = true → codeOk rest = true
 | .seq a b, rest, h, hc => by
  simp only [codeOk] at hc
  split at hc
  ·rename_i ha
   simp only [findLabel] at h
   split at h
   ·rename_i r hr
    cases h
    simp only [codeOk, findLabel_ok l a r hr ha, if_true, hc]
   ·exact findLabel_ok l b rest h hc
  ·cases hc
 | .label l', rest, h, hc => by
  simp only [findLabel] at h
  split at h
  ·cases h; rfl
  ·cases h
 | .skip, _, h, _ | .region .., _, h, _ | .cond .., _, h, _ | .block .., _, h, _ | .loop _, _, h, _ | .rangeFunc .., _, h, _ | .exit _, _, h, _ | .scope _, _, h, _ | .goto _, _, h, _ | .ret, _, h, _ | .refuse _, _, h, _ => by simp [findLabel] at h
theorem gotoS_ok {N : Nat} (l : Nat) : ∀ (k k' : List SItem), gotoS l k = some k' → (∀ j ∈ k, j.okI N) → ∀ j ∈ k', j.okI N
 | [], k', h => by simp [gotoS] at h
 | i :: k, k', h => by
  intro hk
  have hk2 : ∀ j ∈ k, j.okI N := fun j hj => hk j (List.mem_cons_of_mem _ hj)
  cases i <;> simp only [gotoS] at h <;> try exact gotoS_ok l k k' h hk2
  rename_i b
  have hb : codeOk b = true := hk (.inScope b) (List.mem_cons_self ..)
  split at h
  ·rename_i rest hr
   cases h
   intro j hj
   rcases List.mem_cons.1 hj with rfl | hj
   ·exact findLabel_ok l b rest hr hb
   ·rcases List.mem_cons.1 hj with rfl | hj
    ·exact hb
    ·exact hk2 j hj
  ·exact gotoS_ok l k k' h hk2
theorem finish_R {N : Nat} {s s' : SFrame} {v : SV} (h : FrameR ρ N s f) (hs : finishS s v = some s') (hv : NamesV N v) : FrameR ρ N s' (f.finish (v.den ρ)) ∧ s'.fn = s.fn := by
 unfold finishS at hs
 split at hs
 ·rename_i ops i rest k ht
  split at hs
  ·rename_i o ho
   cases hs
   rw [nth_eq, Array.getElem?_toList] at ho
   have he := h.eq
   rw [ht] at he
   have hfin : f.finish (v.den ρ) = { fr s.fn (putA f.tmps o.dst (v.den ρ)) (.inRegion ops rest :: k.map (SItem.den ρ)) (dfs ρ s) (rk ρ s) with mode := ssDen ρ s.md.st } := by
    rw [he]
    cases hd : o.dst <;> simp [Frame.finish, SItem.den, ho, hd, putA]
   refine ⟨⟨?_, ?_, ?_, ?_, h.defs, h.rnd, h.rr, h.mn⟩, rfl⟩
   ·rw [hfin]; simp [SItem.den, dfs, rk]
   ·rw [hfin]
    simp only []
    have := SlotsR.putD (a := ⟨f.tmps, []⟩) h.slots o.dst v
    cases hd : o.dst <;> simp only [hd, putA, Act.put, putD] at this ⊢ <;> exact this
   ·exact h.names.putD _ hv
   ·intro j hj
    have := h.items
    rw [ht] at this
    rcases List.mem_cons.1 hj with rfl | hj
    ·exact this (.inRegion ops (i :: rest)) (List.mem_cons_self ..)
    ·exact this j (List.mem_cons_of_mem _ hj)
  ·cases hs
 ·rename_i l k ht
  cases hs
  have he := h.eq
  rw [ht] at he
  have hfin : f.finish (v.den ρ) = { fr s.fn f.tmps (.endRangeFunc (ρ.a l) :: k.map (SItem.den ρ)) (dfs ρ s) (rk ρ s) with mode := ssDen ρ s.md.st } := by
   rw [he]; simp [Frame.finish, SItem.den]
  refine ⟨⟨?_, ?_, h.names, ?_, h.defs, h.rnd, h.rr, h.mn⟩, rfl⟩
  ·rw [hfin]; simp [SItem.den, dfs, rk]
  ·rw [hfin]; exact h.slots
  ·intro j hj
   have := h.items
   rw [ht] at this
   rcases List.mem_cons.1 hj with rfl | hj
   ·exact this (.inRange l) (List.mem_cons_self ..)
   ·exact this j (List.mem_cons_of_mem _ hj)
 ·cases hs
theorem giveBack_ok (R : CfgR ρ b0 C w f fs) {h' : SHeap} {v : SV} {w' : World} (hm : Move ρ ρ b0 C.heap h' C.next C.next w w') (hv : NamesV C.next v) (cs : List Frame)
  (hdone : C.rest = [] → C.top.md.dfd = false → f.leaving P w (.returned (v.den ρ)) ∧ f.fn = C.top.fn) (hst : ∀ c cs, step P (lone f (c :: cs) w) = .next (lone (c.finish (v.den ρ)) cs w')) :
  ResOk P T.orac.F b0 ρ C w f fs cs (giveBack C h' v) := by
 unfold giveBack
 split
 ·rename_i hr
  unfold doneS
  split
  ·trivial
  ·rename_i hd
   split
   ·rename_i hp
    obtain ⟨h1, h2⟩ := hdone hr hd
    exact ⟨hr, (by rw [endS_ret hp]; exact h1), h2, hv⟩
   ·trivial
 ·rename_i s ss hr
  have hrest := R.rest
  rw [hr] at hrest
  cases hrest with
  | cons hs hss =>
   rename_i c fs'
   split
   ·rename_i s' hs'
    obtain ⟨h1, h2⟩ := finish_R hs hs' hv
    refine ⟨rfl, ρ, w', c.finish (v.den ρ), fs', ⟨h1, hss, hm.heap, hm.names, R.pc⟩, hm, .one (hst c _), ?_⟩
    show bot s' ss = bot C.top C.rest
    rw [hr]
    exact bot_top h2 ss
   ·trivial
def rd (tm : Array Value) : ResultVar → Sem Value
 | .tmp t => pure (tm.getD t undef)
 | .cell a t => do loadVar t (← asAddr (tm.getD a undef))
theorem resultS_ok (hT : T.Ok P) (H : HeapR ρ b0 C.heap w) (hn : HNames C.next C.heap) {sl : Slots} {tm : Array Value} (hsl : SlotsR ρ sl tm) (hsn : SNames C.next sl) : ∀ (l : List ResultVar) (vs : List SV), resultS T C.heap sl l = some vs →
    (l.mapM (rd tm)).run P w = .ok (SV.denL ρ vs) w ∧ NamesL C.next vs := by
  have hev : ∀ t, tm.getD t undef = ((get2 sl t).getD (.tup [])).den ρ := fun t => ev_den (a := ⟨tm, []⟩) hsl (.tmp t)
  have hevn : ∀ t, NamesV C.next ((get2 sl t).getD (.tup [])) := fun t => ev_names hsn (.tmp t)
  intro l
  induction l with
  | nil => intro vs h; simp [resultS] at h; subst h; exact ⟨by simp [SV.denL], by intro v hv; cases hv⟩
  | cons x l ih =>
    intro vs h
    cases x with
    | tmp t =>
      simp only [resultS] at h
      split at h
      · rename_i vs' h1
        cases h
        obtain ⟨h2, h3⟩ := ih _ h1
        refine ⟨?_, ?_⟩
        · have h0 : (rd tm (.tmp t)).run P w = .ok (((get2 sl t).getD (.tup [])).den ρ) w := by rw [← hev t]; rfl
          rw [List.mapM_cons, Sem.run_bind, h0, Result.andThen_ok, Sem.run_bind, h2, Result.andThen_ok]; rfl
        · intro v hv
          rcases List.mem_cons.1 hv with rfl | hv
          · exact hevn t
          · exact h3 v hv
      · cases h
    | cell a t =>
      simp only [resultS] at h
      split at h
      · rename_i n off vs' h0 h1
        split at h
        · rename_i v h' nx' hl
          cases h
          obtain ⟨h2, h3⟩ := ih _ h1
          obtain ⟨r1, _, _, ob, r2, r3⟩ := load_run hT H t n off v h' nx' hl
          refine ⟨?_, ?_⟩
          · have h00 : (rd tm (.cell a t)).run P w = .ok (v.den ρ) w := by
              simp only [rd, hev a, h0, SV.den, asAddr, Sem.run_bind, Sem.run_pure, Result.andThen_ok, r1]
            rw [List.mapM_cons, Sem.run_bind, h00, Result.andThen_ok, Sem.run_bind, h2, Result.andThen_ok]; rfl
          · intro v' hv
            rcases List.mem_cons.1 hv with rfl | hv
            · exact fun m hm => (hn n _ r2).2 m (r3 m hm)
            · exact h3 v' hv
        · cases h
      · cases h
theorem results_rd (F : Func) (tm : Array Value) : results F tm = ((F.results.mapM (rd tm) : Sem (Array Value)) >>= fun vs => (pure (if h : vs.size = 1 then vs[0] else .tuple vs) : Sem Value)) := by
 unfold results
 congr 1
theorem results_ok {F : Func} {tm : Array Value} {vs : List SV} (h : (F.results.toList.mapM (rd tm)).run P w = .ok (SV.denL ρ vs) w) :
  (results F tm).run P w = .ok ((oneOf vs).den ρ) w := by
 rw [results_rd, Array.mapM_eq_mapM_toList, Sem.run_bind, Sem.run_map, h]
 simp only [Result.andThen_ok, Sem.run_pure]
 congr 1
 match vs with
 | [] => simp [oneOf, SV.den, SV.denL]
 | [v] => simp [oneOf, SV.den, SV.denL]
 | a :: b :: l => simp [oneOf, SV.den, SV.denL]
theorem ss_run {s : SS} (h : s ≠ .run) : ssDen ρ s ≠ .run := by
 cases s with
 | run => exact absurd rfl h
 | ret => intro e; cases e
 | pan v r => intro e; cases e
theorem takeD_ok (R : CfgR ρ b0 C w f fs) (hr : C.top.md.st ≠ .run) {n : Nat} {ds : List Nat} (hd : C.top.defers = n :: ds) (cs : List Frame) : ResOk P T.orac.F b0 ρ C w f fs cs (takeD C n ds) := by
 have hf : f = { fr C.top.fn f.tmps (C.top.todo.map (SItem.den ρ)) ({ target := .collected (ρ.a n), args := #[] } :: (defsOf ρ ds ++ dcOf ρ C.top.md.dcs)) (rk ρ C.top) with mode := ssDen ρ C.top.md.st } := by
  have := R.top.eq
  simpa [dfs, hd, defsOf] using this
 unfold takeD
 split
 ·rename_i hl
  obtain ⟨obj, ho, hR⟩ := R.heap.at_ n _ hl
  simp only [ObjR, if_true] at hR
  subst hR
  have hm := Move.upd R.heap R.names hl (.defd false) (.deferred none) (by simp [ObjR]) (by simp [SObj.names])
  refine ⟨rfl, ρ, _, { fr C.top.fn f.tmps (C.top.todo.map (SItem.den ρ)) (defsOf ρ ds ++ dcOf ρ C.top.md.dcs) (rk ρ C.top) with mode := ssDen ρ C.top.md.st }, fs, ⟨⟨?_, R.top.slots, R.top.names, R.top.items, ?_, R.top.rnd, R.top.rr, R.top.mn⟩, R.rest, hm.heap, hm.names, R.pc⟩, hm, ?_, (bot_top (b := C.top) (by rfl) C.rest)⟩
  ·simp [dfs, rk]
  ·intro m hmm
   exact R.top.defs m (by rw [hd]; exact List.mem_cons_of_mem _ hmm)
  ·rw [hf]
   exact .one (st_collected (ds := defsOf ρ ds ++ dcOf ρ C.top.md.dcs) ho (ss_run hr))
 ·trivial
theorem callDef_ok (hT : T.Ok P) (R : CfgR ρ b0 C w f fs) (hr : C.top.md.st ≠ .run) (hd : C.top.defers = []) {g : FuncId} {a c : List SV} {ds : List (Nat × (List SV × List SV))} (hdc : C.top.md.dcs = (g, (a, c)) :: ds) (cs : List Frame) : ResOk P T.orac.F b0 ρ C w f fs cs (callDef T C g (a ++ c) ds) := by
 have hf : f = { fr C.top.fn f.tmps (C.top.todo.map (SItem.den ρ)) ({ target := .fn (.func g) (SV.denL ρ c).toArray, args := (SV.denL ρ a).toArray } :: dcOf ρ ds) (rk ρ C.top) with mode := ssDen ρ C.top.md.st } := by
  have := R.top.eq
  simpa [dfs, hd, hdc, defsOf, dcOf] using this
 have hnm := R.top.mn.dcs (g, (a, c)) (by rw [hdc]; exact List.mem_cons_self ..)
 have hnl : NamesL C.next (a ++ c) := by
  intro v hv
  rcases List.mem_append.1 hv with hv | hv
  ·exact hnm.1 v hv
  ·exact hnm.2 v hv
 unfold callDef
 split
 ·rename_i F hF
  split
  ·rename_i code hc
   obtain ⟨h1, h2⟩ := hT.fn g F hF
   have hb' : ¬ F.body = none := by rw [hc]; intro hh; cases hh
   have h2' : ¬ F.name = "runtime.NumGoroutine" := by simpa using h2
   have hent := enter_RD (P := P) (ρ := ρ) hT hF hc hnl
   refine ⟨rfl, ρ, w, _, { fr C.top.fn f.tmps (C.top.todo.map (SItem.den ρ)) (dcOf ρ ds) (rk ρ C.top) with mode := ssDen ρ C.top.md.st } :: fs, ⟨hent, .cons ⟨?_, R.top.slots, R.top.names, R.top.items, R.top.defs, R.top.rnd, R.top.rr, ⟨R.top.mn.pan, fun d hd => R.top.mn.dcs d (by rw [hdc]; exact List.mem_cons_of_mem _ hd)⟩⟩ R.rest, R.heap, R.names, R.pc⟩, Move.rfl' R.heap R.names, .one ?_, (by show bot _ C.rest = _; exact bot_top (b := C.top) (by rfl) C.rest)⟩
   ·simp [dfs, rk, hd, defsOf]
   ·rw [hf]
    have hin : (invoke (.fn (.func g) (SV.denL ρ c).toArray) (SV.denL ρ a).toArray).run P w = .ok (.enter g ((SV.denL ρ (a ++ c)).toArray)) w := by
     simp [invoke, callFunc, h1, h2', hb', denL_append]
    exact step_defer (fr := { fr C.top.fn f.tmps (C.top.todo.map (SItem.den ρ)) ({ target := .fn (.func g) (SV.denL ρ c).toArray, args := (SV.denL ρ a).toArray } :: dcOf ρ ds) (rk ρ C.top) with mode := ssDen ρ C.top.md.st }) (ds := dcOf ρ ds) (ss_run hr) rfl rfl hin
  ·trivial
 ·trivial
theorem retStep_ok (hT : T.Ok P) (R : CfgR ρ b0 C w f fs) (hr : C.top.md.st = .ret) (cs : List Frame) : ResOk P T.orac.F b0 ρ C w f fs cs (retStep T C) := by
 have hne : C.top.md.st ≠ .run := by rw [hr]; intro e; cases e
 have hround := R.top.rr hr
 unfold retStep
 split
 ·rename_i n ds hd
  exact takeD_ok R hne hd cs
 ·rename_i hd
  split
  ·rename_i g a c ds hdc
   exact callDef_ok hT R hne hd hdc cs
  ·rename_i hdc
   split
   ·rename_i F hF
    split
    ·rename_i vs hvs
     obtain ⟨h1, h2⟩ := resultS_ok (C := C) hT R.heap R.names R.top.slots R.top.names _ _ hvs
     have h3 := results_ok h1
     obtain ⟨hF1, _⟩ := hT.fn _ _ hF
     have hnv : NamesV C.next (oneOf vs) := by
      intro m hm
      match vs, hm with
      | [], hm => simp [oneOf, SV.names, SV.namesL] at hm
      | [v], hm => exact h2 v (by simp) m (by simpa [oneOf] using hm)
      | a :: b :: l, hm =>
       simp only [oneOf, SV.names] at hm
       obtain ⟨v, hv, hm⟩ := mem_namesL.1 hm
       exact h2 v hv m hm
     split
     ·rename_i hdf
      have hf : f = { fr C.top.fn f.tmps (C.top.todo.map (SItem.den ρ)) [] ⟨none, .deferred⟩ with mode := .returning } := by
       have := R.top.eq
       simpa [dfs, hd, hdc, defsOf, dcOf, rk, hround, hdf, hr, ssDen] using this
      have hgo : f.kind = .deferred ∧ f.going P w (.returned ((oneOf vs).den ρ)) := by
       rw [hf]
       exact ⟨rfl, rfl, rfl, F, hF1, h3⟩
      unfold backD
      split
      ·trivial
      ·rename_i s ss hrest
       have hRr := R.rest
       rw [hrest] at hRr
       cases hRr with
       | cons hs hss =>
        rename_i c fs'
        have hstep : ∀ cs, step P (lone f (c :: cs) w) = .next (lone { c with mode := settle c.mode } cs w) := fun cs => step_going_returned hgo.1 hgo.2
        have hcm : c.mode = ssDen ρ s.md.st := by
         have := congrArg Frame.mode hs.eq
         simpa using this
        have key : ∀ (st : SS), settle (ssDen ρ s.md.st) = ssDen ρ st → (st = .ret → s.round = none) → (∀ v r, st = .pan v r → NamesV C.next v) →
          ResOk P T.orac.F b0 ρ C w f (c :: fs') cs (.next { C with top := { s with md := s.md.to st }, rest := ss }) := by
         intro st h1 h2 h3
         refine ⟨rfl, ρ, w, { c with mode := settle c.mode }, fs', ⟨⟨?_, hs.slots, hs.names, hs.items, hs.defs, hs.rnd, h2, ⟨h3, hs.mn.dcs⟩⟩, hss, R.heap, R.names, R.pc⟩, Move.rfl' R.heap R.names, .one (hstep _), ?_⟩
         ·rw [hcm, h1]
          exact congrArg (fun x : Frame => { x with mode := ssDen ρ st }) hs.eq
         ·show bot _ ss = bot C.top C.rest
          rw [hrest]; exact bot_top (by rfl) ss
        split
        ·rename_i v hv
         split
         ·rename_i hrd
          exact key .ret (by rw [hv]; rfl) (fun _ => hrd) (fun v r h => by cases h)
         ·trivial
        ·rename_i v hv
         exact key (.pan v false) (by rw [hv]; rfl) (fun h => by cases h) (fun v' r h => by cases h; exact hs.mn.pan v false hv)
        ·rename_i hv
         exact key .ret (by rw [hv]; rfl) (fun _ => hs.rr hv) (fun v r h => by cases h)
        ·trivial
     ·rename_i hdf
      have hf : f = { fr C.top.fn f.tmps (C.top.todo.map (SItem.den ρ)) [] ⟨none, .normal⟩ with mode := .returning } := by
       have := R.top.eq
       simpa [dfs, hd, hdc, defsOf, dcOf, rk, hround, hdf, hr, ssDen] using this
      refine giveBack_ok R (Move.rfl' R.heap R.names) hnv cs ?_ ?_
      ·intro _ _
       refine ⟨?_, by rw [hf]⟩
       rw [hf]
       exact ⟨rfl, rfl, rfl, F, hF1, h3⟩
      ·intro c cs
       rw [hf]
       exact st_returned hF1 h3
    ·trivial
   ·trivial
theorem panStep_ok (hT : T.Ok P) (R : CfgR ρ b0 C w f fs) {v : SV} {r : Bool} (hr : C.top.md.st = .pan v r) (cs : List Frame) : ResOk P T.orac.F b0 ρ C w f fs cs (panStep T C v r) := by
 have hne : C.top.md.st ≠ .run := by rw [hr]; intro e; cases e
 unfold panStep
 split
 ·rename_i n ds hd
  exact takeD_ok R hne hd cs
 ·rename_i hd
  split
  ·rename_i g a c ds hdc
   exact callDef_ok hT R hne hd hdc cs
  ·rename_i hdc
   split
   ·rename_i F hF
    obtain ⟨hF1, _⟩ := hT.fn _ _ hF
    have hf : f = { fr C.top.fn f.tmps (C.top.todo.map (SItem.den ρ)) [] (rk ρ C.top) with mode := .panicking [{ v := v.den ρ, recovered := false }] } := by
     have := R.top.eq
     simpa [dfs, hd, hdc, defsOf, dcOf, hr, ssDen] using this
    have hlv : f.leaving P w (.panicked [{ v := v.den ρ, recovered := false }]) := by
     rw [hf]; exact ⟨rfl, rfl, F, hF1⟩
    have hnv : NamesV C.next v := R.top.mn.pan v _ hr
    split
    ·rename_i hrest
     refine ⟨hrest, ?_, by rw [hf], ?_⟩
     ·rw [endS_pan (v := mkPan v) (u := v) rfl]; exact hlv
     ·intro n hn; exact hnv n (by simpa [mkPan, SV.names] using hn)
    ·rename_i s ss hrest
     have hRr := R.rest
     rw [hrest] at hRr
     cases hRr with
     | cons hs hss =>
      rename_i c fs'
      split
      ·rename_i hrun
       have hcm : c.mode = .run := by
        have := congrArg Frame.mode hs.eq
        rw [hrun] at this
        simpa [ssDen] using this
       refine ⟨rfl, ρ, w, { c with mode := .panicking [{ v := v.den ρ, recovered := false }] }, fs', ⟨⟨?_, hs.slots, hs.names, hs.items, hs.defs, hs.rnd, fun h => (by cases h), ⟨fun v' r h => by cases h; exact hnv, hs.mn.dcs⟩⟩, hss, R.heap, R.names, R.pc⟩, Move.rfl' R.heap R.names, .one ?_, ?_⟩
       ·exact congrArg (fun x : Frame => { x with mode := .panicking [{ v := v.den ρ, recovered := false }] }) hs.eq
       ·have := step_leave_panicked (P := P) (c := c) (cs := fs' ++ cs) hlv
        rw [Frame.raise_mode] at this
        simpa [raised, hcm] using this
       ·show bot _ ss = bot C.top C.rest
        rw [hrest]; exact bot_top (by rfl) ss
      ·trivial
   ·trivial
end
end Go.Proofs.Ythenenacmiiphaa.Sx
namespace Go.Proofs.Ythenenacmiiphaa.Sx
open Go
section
variable {P : Program} {T : Tab} {b0 : World} {sub : Cfg → Out} {ρ : Rho} {w : World} {f : Frame} {fs : List Frame} {C : Cfg}
theorem run_getLoop {l : Nat} {L : Loop} (h : w.heap[l]? = some (.loop L)) : (Instr.getLoop l).run P w = .ok L w := by
 simp [Instr.getLoop, getObj, Sem.run, h]
theorem run_setObj {l : Nat} {o : Obj} {L : Loop} (h : w.heap[l]? = some (.loop L)) : (setObj l o).run P w = .ok () (World.putO w l o) := by
 simp [setObj, Sem.run, h, World.putO]
theorem leave_ok (R : CfgR ρ b0 C w f fs) (hr : C.top.md.st = .run) (cs : List Frame) (jump : Option Code)
  (hj : ∀ c, jump = some c → codeOk c = true)
  (ht : (C.top.todo = [] ∧ jump = none) ∨ (∃ k, C.top.todo = .code .ret :: k ∧ jump = some .ret) ∨ (∃ id k, C.top.todo = .code (.exit id) :: k ∧ exitS id k = none ∧ jump = some (.exit id)) ∨ (∃ g k, C.top.todo = .code (.goto g) :: k ∧ gotoS g k = none ∧ jump = some (.goto g))) :
  ResOk P T.orac.F b0 ρ C w f fs cs (leaveS C jump) := by
 have hf := frame_run R.top hr
 unfold leaveS
 split
 ·rename_i hround
  have hrk : rk ρ C.top = ⟨none, if C.top.md.dfd then .deferred else .normal⟩ := by simp [rk, hround]
  generalize (if C.top.md.dfd then CallKind.deferred else CallKind.normal) = kd at hrk
  rw [hrk] at hf
  have mk : ResOk P T.orac.F b0 ρ C w f fs cs (.next { C with top := { C.top with md := C.top.md.to .ret } }) ↔ ResOk P T.orac.F b0 ρ C w f fs cs (.next { C with top := { C.top with md := C.top.md.to .ret } }) := Iff.rfl
  have go : (∀ cs, step P (lone (fr C.top.fn f.tmps (C.top.todo.map (SItem.den ρ)) (dfs ρ C.top) ⟨none, kd⟩) cs w) = .next (lone { fr C.top.fn f.tmps (C.top.todo.map (SItem.den ρ)) (dfs ρ C.top) ⟨none, kd⟩ with mode := .returning } cs w)) →
    ResOk P T.orac.F b0 ρ C w f fs cs (.next { C with top := { C.top with md := C.top.md.to .ret } }) := by
   intro hst
   refine ⟨rfl, ρ, w, { fr C.top.fn f.tmps (C.top.todo.map (SItem.den ρ)) (dfs ρ C.top) ⟨none, kd⟩ with mode := .returning }, fs, ⟨⟨?_, R.top.slots, R.top.names, R.top.items, R.top.defs, R.top.rnd, fun _ => hround, ⟨fun v r h => (by cases h), R.top.mn.dcs⟩⟩, R.rest, R.heap, R.names, R.pc⟩, Move.rfl' R.heap R.names, ?_, (bot_top (b := C.top) (by rfl) C.rest)⟩
   ·rw [← hrk]; simp [SM.to, ssDen]; exact ⟨rfl, rfl, rfl⟩
   ·rw [hf]; exact .one (hst _)
  split
  ·refine go fun cs => ?_
   rcases ht with ⟨h1, _⟩ | ⟨k, h1, h2⟩ | ⟨id, k, h1, _, h2⟩ | ⟨g, k, h1, _, h2⟩
   ·rw [h1]; exact st_end
   all_goals cases h2
  ·refine go fun cs => ?_
   rcases ht with ⟨h1, h2⟩ | ⟨k, h1, h2⟩ | ⟨id, k, h1, _, h2⟩ | ⟨g, k, h1, _, h2⟩
   ·cases h2
   ·rw [h1]; exact st_ret
   all_goals cases h2
  ·trivial
 ·rename_i l hround
  split
  ·rename_i st pend fn tmps ps as body d hl hdf
   have hrk : rk ρ C.top = ⟨some (ρ.a l), .normal⟩ := by simp [rk, hround, hdf]
   rw [hrk] at hf
   obtain ⟨obj, ho, hR⟩ := R.heap.at_ l _ hl
   obtain ⟨X, hX, c1, c2, c3, hobj⟩ := hR
   subst hobj
   have hnm := R.names l _ hl
   have hm := Move.upd R.heap R.names hl (.loop (jst jump) jump fn tmps ps as body d)
    (.loop { state := if jump.isNone then .ready else .done, pending := jump, fn := fn, tmps := X, params := ps.toArray, assign := as, body := body, defers := ρ.a d })
    ⟨X, hX, c1, c2, hj, by cases jump <;> rfl⟩ hnm.2
   have hend : (Instr.endRound (ρ.a l) jump).run P w = .ok (.bool jump.isNone) (World.putO w (ρ.a l) (.loop { state := if jump.isNone then .ready else .done, pending := jump, fn := fn, tmps := X, params := ps.toArray, assign := as, body := body, defers := ρ.a d })) := by
    simp [Instr.endRound, run_getLoop ho, run_setObj ho]
   have hv : (SV.bool (.lit (jb jump))).den ρ = .bool jump.isNone := by cases jump <;> rfl
   split
   ·trivial
   ·rename_i s0 ss0 hrest
    refine giveBack_ok R hm ?_ cs ?_ ?_
    ·intro n hn; simp [SV.names] at hn
    ·intro h0 _; rw [hrest] at h0; cases h0
    ·intro c cs
     rw [hf, hv]
     refine st_leave_round hend ?_
     rcases ht with ⟨h1, h2⟩ | ⟨k, h1, h2⟩ | ⟨id, k, h1, h3, h2⟩ | ⟨g, k, h1, h3, h2⟩
     ·exact .inl ⟨by rw [h1]; rfl, h2⟩
     ·exact .inr (.inl ⟨_, by rw [h1]; rfl, h2⟩)
     ·exact .inr (.inr (.inl ⟨id, _, by rw [h1]; rfl, by rw [exitS_den, h3]; rfl, h2⟩))
     ·exact .inr (.inr (.inr ⟨g, _, by rw [h1]; rfl, by rw [gotoS_den, h3]; rfl, h2⟩))
  ·trivial
theorem frames_push {N : Nat} (R : FrameR ρ N C.top f) (hs : FramesR ρ N C.rest fs) : FramesR ρ N (C.top :: C.rest) (f :: fs) := .cons R hs
theorem valTo_ok (R : CfgR ρ b0 C w f fs) (hr : C.top.md.st = .run) {ops : Array Oper} {i : Nat} {rest : List Nat} {k : List SItem} (ht : C.top.todo = .inRegion ops (i :: rest) :: k) (cs : List Frame)
  {dst : Option Tmp} {v : SV} {h' : SHeap} {nx' : Nat} {ρ' : Rho} {w' : World} (hm : Move ρ ρ' b0 C.heap h' C.next nx' w w') (hv : NamesV nx' v)
  (hst : Steps P (lone (fr C.top.fn f.tmps (.inRegion ops (i :: rest) :: k.map (SItem.den ρ)) (dfs ρ C.top) (rk ρ C.top)) (fs ++ cs) w) (lone (fr C.top.fn (putA f.tmps dst (v.den ρ')) (.inRegion ops rest :: k.map (SItem.den ρ)) (dfs ρ C.top) (rk ρ C.top)) (fs ++ cs) w')) :
  ResOk P T.orac.F b0 ρ C w f fs cs (valTo C ops rest k dst v h' nx') := by
 have hf := frame_run R.top hr
 rw [ht] at hf
 have htop := R.top.agr hm.agr hm.le
 have hk : k.map (SItem.den ρ') = k.map (SItem.den ρ) := by
  apply List.map_congr_left
  intro j hj
  have := R.top.items j (by rw [ht]; exact List.mem_cons_of_mem _ hj)
  cases j <;> simp [SItem.den, SItem.okI] at this ⊢ <;> exact hm.agr.a _ (.inl this)
 have hd : dfs ρ' C.top = dfs ρ C.top := dfs_agr hm.agr R.top.defs R.top.mn
 have hrd : rk ρ' C.top = rk ρ C.top := rk_agr hm.agr R.top.rnd
 have hag : ∀ i v, get2 C.top.tmps i = some v → ∀ n ∈ v.names, n < C.next ∨ nx' ≤ n := fun i v hv n hn => .inl (R.top.names i v hv n hn)
 refine ⟨rfl, ρ', w', fr C.top.fn (putA f.tmps dst (v.den ρ')) (.inRegion ops rest :: k.map (SItem.den ρ)) (dfs ρ C.top) (rk ρ C.top), fs, ⟨⟨?_, ?_, ?_, ?_, htop.defs, htop.rnd, ?_, htop.mn⟩, R.rest.agr hm.agr hm.le, hm.heap, hm.names, (hm.agr.holds).2 R.pc⟩, hm, ?_, (bot_top (b := C.top) (by rfl) C.rest)⟩
 ·show _ = ({ fr C.top.fn _ _ (dfs ρ' C.top) (rk ρ' C.top) with mode := ssDen ρ' C.top.md.st } : Frame)
  simp [hr, SItem.den, hk, hd, hrd, ssDen]
 ·have := SlotsR.putD (a := ⟨f.tmps, []⟩) (R.top.slots.agr hm.agr hag) dst v
  cases dst <;> simp only [putA, Act.put, putD] at this ⊢ <;> exact this
 ·exact (R.top.names.le hm.le).putD _ hv
 ·intro j hj
  rcases List.mem_cons.1 hj with rfl | hj
  ·exact R.top.items (.inRegion ops (i :: rest)) (by rw [ht]; exact List.mem_cons_self ..)
  ·exact htop.items j (by rw [ht]; exact List.mem_cons_of_mem _ hj)
 ·intro h; exact R.top.rr h
 ·rw [hf]; exact hst
theorem enter_cfg (hT : T.Ok P) (R : CfgR ρ b0 C w f fs) {g : FuncId} {F : Func} {c : Code} {args : List SV} (hF : T.fn.get g = some F) (hb : F.body = some c) (hn : NamesL C.next args) :
  CfgR ρ b0 { C with top := frameOf g F c args, rest := C.top :: C.rest } w (Frame.enter P g (SV.denL ρ args).toArray .normal) (f :: fs) :=
 ⟨(enter_R hT hF hb hn).1, .cons R.top R.rest, R.heap, R.names, R.pc⟩
theorem enterR_ok (hT : T.Ok P) (hρ : ρ.Ok) (hO : OracOk P b0 T.orac ρ) (R : CfgR ρ b0 C w f fs) (hr : C.top.md.st = .run) {ops : Array Oper} {i : Nat} {rest : List Nat} {k : List SItem} {o : Oper} (ht : C.top.todo = .inRegion ops (i :: rest) :: k) (ho : ops[i]? = some o) (cs : List Frame)
  {g : FuncId} {args : List SV} (hn : NamesL C.next args)
  (hst : ∀ F, P.funcs[g]? = some F → F.body.isSome = true → (F.name == "runtime.NumGoroutine") = false → ∀ cs, step P (lone f cs w) = .next (lone (Frame.enter P g (SV.denL ρ args).toArray .normal) (f :: cs) w)) :
  ResOk P T.orac.F b0 ρ C w f fs cs (enterR T C ops rest k o.dst g args) := by
 have hf := frame_run R.top hr
 rw [ht] at hf
 unfold enterR
 split
 ·rename_i F hF
  obtain ⟨hf1, hf2⟩ := hT.fn g F hF
  split
  ·rename_i c hc
   have hst' := hst F hf1 (by rw [hc]; rfl) hf2
   split
   ·rename_i oc hoc
    obtain ⟨hm, hg, ha⟩ := findO_ok hoc
    obtain ⟨⟨n1, n2, n3⟩, hcall⟩ := hO.l oc hm
    have hc2 := hcall w R.heap.g0
    rw [hg, ha] at hc2
    have hval : ∀ (v : SV), (if oc.c.den ρ then oc.yes else oc.no) = v → v.names = [] → ResOk P T.orac.F b0 ρ C w f fs cs (valTo C ops rest k o.dst v C.heap C.next) := by
     intro v hv hvn
     obtain ⟨u, w', ⟨hu, hgr⟩, hs⟩ := steps_call hc2 (fun e w' h => ⟨_, h.1⟩) f (fs ++ cs)
     cases hu
     rw [hv] at hs
     refine valTo_ok R hr ht cs (grown_move R.heap R.names hgr) (fun n hn => by rw [hvn] at hn; cases hn) ?_
     have hs2 := Steps.trans (.one (hst' (fs ++ cs))) hs
     have hfin : f.finish (v.den ρ) = fr C.top.fn (putA f.tmps o.dst (v.den ρ)) (.inRegion ops rest :: k.map (SItem.den ρ)) (dfs ρ C.top) (rk ρ C.top) := by
      rw [hf]; exact finish_fr ho _
     rw [hfin] at hs2
     rw [hf] at hs2
     exact hs2
    split
    ·rename_i hd
     have hd' := dec_den hρ R.pc _ _ hd
     exact hval _ (by simp [hd']) n2
    ·rename_i hd
     have hd' := dec_den hρ R.pc _ _ hd
     exact hval _ (by simp [hd']) n3
    ·trivial
   ·split
    ·trivial
    ·rename_i u hu
     obtain ⟨hpost, hcall⟩ := findX_ok (b0 := b0) (w := w) hT.posts hρ R.pc R.names hO R.heap hu
     split
     rotate_left
     ·rename_i v hpn
      obtain ⟨ch, w', ⟨ρ', hv1, hmv, hnv⟩, hs⟩ := steps_callP hcall (fun e w' ⟨ρ', h, _⟩ => ⟨_, h.trans (endS_pan hpn)⟩) f (fs ++ cs)
      rw [endS_pan hpn] at hv1
      cases hv1
      have hs2 := Steps.trans (.one (hst' (fs ++ cs))) hs
      refine ⟨.more _ rfl (fun ρ g hp => findX_post g hT.posts hp hu), _, List.mem_singleton.2 rfl, ?_⟩
      have htop := R.top.agr hmv.agr hmv.le
      have hmode : f.mode = .run := by rw [hf]
      rw [Frame.raise_mode] at hs2
      simp only [raised, hmode] at hs2
      refine ⟨ρ', w', { f with mode := .panicking [{ v := v.den ρ', recovered := false }] }, fs, ⟨⟨?_, htop.slots, htop.names, htop.items, htop.defs, htop.rnd, fun h => (by cases h), ⟨fun v' r h => ?_, htop.mn.dcs⟩⟩, R.rest.agr hmv.agr hmv.le, hmv.heap, hmv.names, ?_⟩, hmv, hs2, (bot_top (b := C.top) (by rfl) C.rest)⟩
      ·exact congrArg (fun x : Frame => { x with mode := .panicking [{ v := v.den ρ', recovered := false }] }) htop.eq
      ·cases h
       rw [panV_some hpn] at hnv
       intro n hn
       exact hnv n (by simpa [mkPan, SV.names] using hn)
      ·exact fun p hm => (List.mem_append.1 hm).elim (((hmv.agr.holds).2 hpost) p) (((hmv.agr.holds).2 R.pc) p)
     rename_i hpn
     obtain ⟨v, w', ⟨ρ', hv1, hmv, hnv⟩, hs⟩ := steps_call hcall (fun e w' ⟨ρ', h, _⟩ => ⟨_, h.trans (endS_ret hpn)⟩) f (fs ++ cs)
     rw [endS_ret hpn] at hv1
     cases hv1
     have hs2 := Steps.trans (.one (hst' (fs ++ cs))) hs
     have hfin : f.finish (u.val.den ρ') = fr C.top.fn (putA f.tmps o.dst (u.val.den ρ')) (.inRegion ops rest :: k.map (SItem.den ρ)) (dfs ρ C.top) (rk ρ C.top) := by
      rw [hf]; exact finish_fr ho _
     rw [hfin] at hs2
     rw [hf] at hs2
     have hv := valTo_ok (T := T) R hr ht cs hmv hnv hs2
     obtain ⟨_, ρ3, w3, f3, fs3, R3, hm3, hs3, hb3⟩ := hv
     refine ⟨.more _ rfl (fun ρ g hp => findX_post g hT.posts hp hu), _, List.mem_singleton.2 rfl, ρ3, w3, f3, fs3, ⟨R3.top, R3.rest, R3.heap, R3.names, ?_⟩, hm3, hs3, hb3⟩
     have hp3 : Holds ρ3 C.pc := R3.pc
     exact fun p hm => (List.mem_append.1 hm).elim (((hm3.agr.holds).2 hpost) p) (hp3 p)
    ·refine ⟨rfl, ρ, w, _, f :: fs, enter_cfg hT R hF hc hn, Move.rfl' R.heap R.names, .one ?_, rfl⟩
     exact hst' _
  ·trivial
 ·trivial
theorem setParams_ok : ∀ (ps : List Tmp) (vs : List SV) (sl sl' : Slots) (X : Array Value), setParams sl ps vs = some sl' → SlotsR ρ sl X →
    SlotsR ρ sl' ((ps.zip (SV.denL ρ vs)).foldl (fun tm (t, a) => tm.setIfInBounds t a) X) ∧ ps.length = vs.length ∧ ∀ N, SNames N sl → NamesL N vs → SNames N sl' := by
  intro ps
  induction ps with
  | nil =>
    intro vs sl sl' X h hX
    cases vs with
    | nil => simp [setParams] at h; subst h; exact ⟨by simpa using hX, rfl, fun N h _ => h⟩
    | cons v vs => simp [setParams] at h
  | cons p ps ih =>
    intro vs sl sl' X h hX
    cases vs with
    | nil => simp [setParams] at h
    | cons v vs =>
      simp only [setParams] at h
      obtain ⟨h1, h2, h3⟩ := ih vs _ _ _ h (hX.put p v)
      exact ⟨by simpa [SV.denL] using h1, by simp [h2], fun N hs hn => h3 N (hs.put p (hn v (by simp))) (fun u hu => hn u (by simp [hu]))⟩
theorem roundR_ok (R : CfgR ρ b0 C w f fs) (hr : C.top.md.st = .run) (cs : List Frame) {l : Nat} {args : List SV} (hn : NamesL C.next args) (hl : l < C.next)
  (hst : ∀ (L : Loop) (tm : Array Value), (Instr.yield (ρ.a l) (SV.denL ρ args).toArray).run P w = .ok (.round (ρ.a l) L.fn tm L.assign L.body) w → ∀ cs, step P (lone f cs w) = .next (lone (fr L.fn tm [.code L.assign, .beginRound, .code L.body] [] ⟨some (ρ.a l), .normal⟩) (f :: cs) w)) :
  ResOk P T.orac.F b0 ρ C w f fs cs (roundR C l args) := by
 unfold roundR
 split
 ·rename_i st pend fn tmps ps as body d hlk
  obtain ⟨obj, ho, hR⟩ := R.heap.at_ l _ hlk
  obtain ⟨X, hX, c1, c2, c3, hobj⟩ := hR
  subst hobj
  split
  ·rename_i tmps' hp
   obtain ⟨h1, h2, h3⟩ := setParams_ok ps args tmps tmps' X hp hX
   have hnm := R.names l _ hlk
   have htn : SNames C.next tmps := ONames.flat (fun m hm => hnm.2 m (by simp only [SObj.names, List.mem_cons]; exact .inr hm))
   have hy : (Instr.yield (ρ.a l) (SV.denL ρ args).toArray).run P w = .ok (.round (ρ.a l) fn ((ps.zip (SV.denL ρ args)).foldl (fun tm (t, a) => tm.setIfInBounds t a) X) as body) w := by
    simp only [Instr.yield, Sem.run_bind, run_getLoop ho, Result.andThen_ok]
    have hsz : ¬ (SV.denL ρ args).toArray.size ≠ ps.toArray.size := by simp [denL_length, h2]
    rw [if_neg hsz]
    simp only [Sem.run_pure]
    congr 2
    rw [← Array.foldl_toList]
    simp
   have hs := hst { state := st, pending := pend, fn := fn, tmps := X, params := ps.toArray, assign := as, body := body, defers := ρ.a d } _ hy
   refine ⟨rfl, ρ, w, fr fn ((ps.zip (SV.denL ρ args)).foldl (fun tm (t, a) => tm.setIfInBounds t a) X) [.code as, .beginRound, .code body] [] ⟨some (ρ.a l), .normal⟩, f :: fs, ⟨⟨?_, h1, h3 _ htn hn, ?_, ?_, ?_, ?_, ⟨fun v r h => (by cases h), fun d hd => (by cases hd)⟩⟩, .cons R.top R.rest, R.heap, R.names, R.pc⟩, Move.rfl' R.heap R.names, .one (hs _), rfl⟩
   ·simp [SItem.den, dfs, defsOf, dcOf, rk, ssDen]
   ·intro j hj
    simp only [List.mem_cons, List.not_mem_nil, or_false] at hj
    rcases hj with rfl | rfl | rfl
    ·exact c1
    ·trivial
    ·exact c2
   ·intro n hn; cases hn
   ·intro n hn; cases hn; exact hl
   ·intro h; cases h
  ·trivial
 ·trivial
theorem runR0_ok (hT : T.Ok P) (hρ : ρ.Ok) (hO : OracOk P b0 T.orac ρ) (R : CfgR ρ b0 C w f fs) (hr : C.top.md.st = .run) {ops : Array Oper} {i : Nat} {rest : List Nat} {k : List SItem} {o : Oper} (ht : C.top.todo = .inRegion ops (i :: rest) :: k) (ho : ops[i]? = some o) (hwt : Region.wanted o (yielded ops f.tmps) = true) (hdf : ∀ c, o.op ≠ .defer c) (cs : List Frame) :
  ResOk P T.orac.F b0 ρ C w f fs cs (runR0 T C ops rest k o) := by
 have hf := frame_run R.top hr
 rw [ht] at hf
 have hop := symOp_ok (P := P) (b0 := b0) (w := w) (a := ⟨f.tmps, dfs ρ C.top⟩) hT hρ R.pc hO.F hO.rom R.heap R.names R.top.slots R.top.names o
 unfold runR0
 split
 ·rename_i v h' nx' hv
  rw [hv] at hop
  obtain ⟨ρ', w', nv, h1, h2, h3, h4⟩ := hop
  refine valTo_ok R hr ht cs h3 h4 (.one (st_op_value ho hwt hdf ?_))
  rcases h2 with rfl | ⟨rfl, rfl⟩
  ·exact .inl h1
  ·exact .inr ⟨h1, by simp [SV.den, SV.denL, undef]⟩
 ·rename_i g args hv
  rw [hv] at hop
  refine enterR_ok hT hρ hO R hr ht ho cs hop.2 ?_
  intro F h1 h2 h3 cs
  have := st_op_enter (fn := C.top.fn) (k := k.map (SItem.den ρ)) (ds := dfs ρ C.top) (r := rk ρ C.top) (cs := cs) (rest := rest) ho hwt hdf (hop.1 F h1 h2 h3)
  rw [hf]
  exact this
 ·rename_i l args hv
  rw [hv] at hop
  obtain ⟨h1, h2, h3⟩ := hop
  refine roundR_ok R hr cs h3 h2 ?_
  intro L tm hy cs
  have := st_op_round (fn := C.top.fn) (k := k.map (SItem.den ρ)) (ds := dfs ρ C.top) (r := rk ρ C.top) (cs := cs) (rest := rest) ho hwt hdf (h1.trans hy)
  rw [hf]
  exact this
 ·trivial
 ·trivial
theorem panR_ok (R : CfgR ρ b0 C w f fs) (hr : C.top.md.st = .run) {ops : Array Oper} {i : Nat} {rest : List Nat} {k : List SItem} {o : Oper} (ht : C.top.todo = .inRegion ops (i :: rest) :: k) (ho : ops[i]? = some o) (hwt : Region.wanted o (yielded ops f.tmps) = true) {x : Operand} (hx : o.op = .panic x) (cs : List Frame) :
  ResOk P T.orac.F b0 ρ C w f fs cs (panR C x) := by
 have hf := frame_run R.top hr
 rw [ht] at hf
 unfold panR
 split
 ·rename_i t v he
  have hev := ev_den (a := ⟨f.tmps, dfs ρ C.top⟩) R.top.slots x
  rw [he] at hev
  have hnv := ev_names R.top.names x
  rw [he] at hnv
  have hrun : (execOp (Act.eval ⟨f.tmps, dfs ρ C.top⟩) o).run P w = .halt (.panic ((SV.iface t v).den ρ)) w := by
   simp only [execOp, hx, hev]
   simp [SV.den, Instr.panic, goPanic]
  refine ⟨rfl, ρ, w, { fr C.top.fn f.tmps (C.top.todo.map (SItem.den ρ)) (dfs ρ C.top) (rk ρ C.top) with mode := .panicking [{ v := (SV.iface t v).den ρ, recovered := false }] }, fs, ⟨⟨rfl, R.top.slots, R.top.names, R.top.items, R.top.defs, R.top.rnd, fun h => (by cases h), ⟨fun v' r h => by cases h; exact hnv, R.top.mn.dcs⟩⟩, R.rest, R.heap, R.names, R.pc⟩, Move.rfl' R.heap R.names, ?_, (bot_top (b := C.top) (by rfl) C.rest)⟩
  rw [ht]
  rw [hf]
  exact .one (st_op_panic ho hwt (fun c hc => by rw [hx] at hc; cases hc) hrun)
 ·trivial
theorem defR_ok (R : CfgR ρ b0 C w f fs) (hr : C.top.md.st = .run) {ops : Array Oper} {i : Nat} {rest : List Nat} {k : List SItem} {o : Oper} (ht : C.top.todo = .inRegion ops (i :: rest) :: k) (ho : ops[i]? = some o) (hwt : Region.wanted o (yielded ops f.tmps) = true) {c : Call} (hx : o.op = .defer c) (cs : List Frame) :
  ResOk P T.orac.F b0 ρ C w f fs cs (defR C ops rest k o.dst c) := by
 have hf := frame_run R.top hr
 rw [ht] at hf
 unfold defR
 split
 ·rename_i fo hcal
  split
  ·rename_i g first captured he
   split
   ·rename_i hround hdef
    have hrk : rk ρ C.top = ⟨none, if C.top.md.dfd then .deferred else .normal⟩ := by simp [rk, hround]
    have hev := ev_den (a := ⟨f.tmps, dfs ρ C.top⟩) R.top.slots fo
    rw [he] at hev
    have hnv := ev_names R.top.names fo
    rw [he] at hnv
    have hargs : ∀ v ∈ c.args.toList.map (ev C.top.tmps), NamesV C.next v := by
     intro v hv
     obtain ⟨x, _, rfl⟩ := List.mem_map.1 hv
     exact ev_names R.top.names x
    have hden := args_den (a := ⟨f.tmps, dfs ρ C.top⟩) R.top.slots c.args
    have hrun : (execOp (Act.eval ⟨f.tmps, dfs ρ C.top⟩) o).run P w = .ok (.defer { target := .fn (.func g) (SV.denL ρ captured).toArray, args := (SV.denL ρ (first ++ c.args.toList.map (ev C.top.tmps))).toArray }) w := by
     simp [execOp, hx, resolve, hcal, hev, SV.den, fnDen, Deferred.ofValue, denL_append, ← hden]
    refine ⟨rfl, ρ, w, fr C.top.fn (putA f.tmps o.dst undef) (.inRegion ops rest :: k.map (SItem.den ρ)) ({ target := .fn (.func g) (SV.denL ρ captured).toArray, args := (SV.denL ρ (first ++ c.args.toList.map (ev C.top.tmps))).toArray } :: dfs ρ C.top) (rk ρ C.top), fs, ⟨⟨?_, ?_, ?_, ?_, R.top.defs, R.top.rnd, fun h => (by rw [show C.top.md.st = SS.ret from h] at hr; cases hr), ⟨fun v' r h => (by rw [show C.top.md.st = SS.pan v' r from h] at hr; cases hr), ?_⟩⟩, R.rest, R.heap, R.names, R.pc⟩, Move.rfl' R.heap R.names, ?_, (bot_top (b := C.top) (by rfl) C.rest)⟩
    ·simp [SItem.den, dfs, rk, hdef, defsOf, dcOf, hr, ssDen]
    ·have := SlotsR.putD (a := ⟨f.tmps, []⟩) R.top.slots o.dst (.tup [])
     have hu : undef = (SV.tup []).den ρ := by simp [SV.den, SV.denL, undef]
     rw [hu]
     cases hd : o.dst <;> simp only [hd, putA, Act.put, putD] at this ⊢ <;> exact this
    ·exact R.top.names.putD _ (fun n hn => by simp [SV.names, SV.namesL] at hn)
    ·intro j hj
     rcases List.mem_cons.1 hj with rfl | hj
     ·trivial
     ·exact R.top.items j (by rw [ht]; exact List.mem_cons_of_mem _ hj)
    ·intro d hd
     rcases List.mem_cons.1 hd with rfl | hd
     ·refine ⟨?_, ?_⟩
      ·intro v hv
       rcases List.mem_append.1 hv with hv | hv
       ·exact fun m hm => hnv m (by simp only [SV.names, List.mem_append]; exact .inl (mem_namesL.2 ⟨v, hv, hm⟩))
       ·exact hargs v hv
      ·intro v hv
       exact fun m hm => hnv m (by simp only [SV.names, List.mem_append]; exact .inr (mem_namesL.2 ⟨v, hv, hm⟩))
     ·exact R.top.mn.dcs d hd
    ·rw [hrk] at hf ⊢
     rw [hf]
     exact .one (st_op_defer ho hwt hrun)
   ·trivial
  ·trivial
 ·trivial
theorem recR_ok (R : CfgR ρ b0 C w f fs) (hr : C.top.md.st = .run) {ops : Array Oper} {i : Nat} {rest : List Nat} {k : List SItem} {o : Oper} (ht : C.top.todo = .inRegion ops (i :: rest) :: k) (ho : ops[i]? = some o) (hwt : Region.wanted o (yielded ops f.tmps) = true) {c : Call} (hx : o.op = .call c) (hc : isRec c = true) (cs : List Frame) :
  ResOk P T.orac.F b0 ρ C w f fs cs (recR C ops rest k o.dst) := by
 have hf := frame_run R.top hr
 rw [ht] at hf
 have hrun : (execOp (Act.eval ⟨f.tmps, dfs ρ C.top⟩) o).run P w = .ok .recover w := by
  unfold isRec at hc
  split at hc
  ·rename_i hcal
   simp [execOp, hx, resolve, hcal, invoke, builtin]
  ·cases hc
 have hnd : ∀ c, o.op ≠ .defer c := fun c h => by rw [hx] at h; cases h
 unfold recR
 split
 ·rename_i s ss hdf hround hrest
  have hrk : rk ρ C.top = ⟨none, .deferred⟩ := by simp [rk, hround, hdf]
  have hRr := R.rest
  rw [hrest] at hRr
  cases hRr with
  | cons hs hss =>
   rename_i c fs'
   have hcm : c.mode = ssDen ρ s.md.st := by
    have := congrArg Frame.mode hs.eq
    simpa using this
   split
   ·rename_i hst
    refine valTo_ok R hr ht cs (Move.rfl' R.heap R.names) (fun n hn => by simp [SV.names] at hn) ?_
    rw [hrk]
    exact .one (st_op_rec0 ho hwt hnd hrun (by rw [hcm, hst]; rfl))
   ·rename_i v hst
    have hnv : NamesV C.next v := hs.mn.pan v false hst
    refine ⟨rfl, ρ, w, fr C.top.fn (putA f.tmps o.dst (v.den ρ)) (.inRegion ops rest :: k.map (SItem.den ρ)) (dfs ρ C.top) (rk ρ C.top), { c with mode := .panicking [{ v := v.den ρ, recovered := true }] } :: fs', ⟨⟨?_, ?_, ?_, ?_, R.top.defs, R.top.rnd, R.top.rr, R.top.mn⟩, .cons ⟨?_, hs.slots, hs.names, hs.items, hs.defs, hs.rnd, fun h => (by cases h), ⟨fun v' r h => by cases h; exact hnv, hs.mn.dcs⟩⟩ hss, R.heap, R.names, R.pc⟩, Move.rfl' R.heap R.names, ?_, ?_⟩
    ·simp [SItem.den, dfs, rk, hr, ssDen]
    ·have := SlotsR.putD (a := ⟨f.tmps, []⟩) R.top.slots o.dst v
     cases hd : o.dst <;> simp only [hd, putA, Act.put, putD] at this ⊢ <;> exact this
    ·exact R.top.names.putD _ hnv
    ·intro j hj
     rcases List.mem_cons.1 hj with rfl | hj
     ·trivial
     ·exact R.top.items j (by rw [ht]; exact List.mem_cons_of_mem _ hj)
    ·exact congrArg (fun x : Frame => { x with mode := .panicking [{ v := v.den ρ, recovered := true }] }) hs.eq
    ·rw [hrk] at hf ⊢
     rw [hf]
     exact .one (st_op_rec ho hwt hnd hrun (by rw [hcm, hst]; rfl))
    ·show bot _ (_ :: ss) = bot C.top C.rest
     rw [hrest]
     exact bot_top (a := { s with md := s.md.to (.pan v true) }) (b := s) (by rfl) ss
   ·trivial
 ·trivial
theorem runR_ok (hT : T.Ok P) (hρ : ρ.Ok) (hO : OracOk P b0 T.orac ρ) (R : CfgR ρ b0 C w f fs) (hr : C.top.md.st = .run) {ops : Array Oper} {i : Nat} {rest : List Nat} {k : List SItem} {o : Oper} (ht : C.top.todo = .inRegion ops (i :: rest) :: k) (ho : ops[i]? = some o) (hwt : Region.wanted o (yielded ops f.tmps) = true) (cs : List Frame) :
  ResOk P T.orac.F b0 ρ C w f fs cs (runR T C ops rest k o) := by
 unfold runR
 split
 ·rename_i x hx
  exact panR_ok R hr ht ho hwt hx cs
 ·rename_i c hx
  exact defR_ok R hr ht ho hwt hx cs
 ·rename_i c hx
  split
  ·rename_i hc
   exact recR_ok R hr ht ho hwt hx hc cs
  ·exact runR0_ok hT hρ hO R hr ht ho hwt (fun c h => by rw [hx] at h; cases h) cs
 ·rename_i h1 h2 h3
  exact runR0_ok hT hρ hO R hr ht ho hwt (fun c h => h2 c h) cs
theorem stepRegion_ok (hT : T.Ok P) (hρ : ρ.Ok) (hO : OracOk P b0 T.orac ρ) (R : CfgR ρ b0 C w f fs) (hr : C.top.md.st = .run) {ops : Array Oper} {i : Nat} {rest : List Nat} {k : List SItem} (ht : C.top.todo = .inRegion ops (i :: rest) :: k) (cs : List Frame) :
  ResOk P T.orac.F b0 ρ C w f fs cs (stepRegion T C ops i rest k) := by
 have hf := frame_run R.top hr
 rw [ht] at hf
 unfold stepRegion
 split
 ·trivial
 ·rename_i o ho
  rw [nth_eq, Array.getElem?_toList] at ho
  have hw := wanted_run (ops := ops) (o := o) (tm := f.tmps) hρ R.pc (fun t _ => R.top.slots t)
  unfold wantR
  split
  ·trivial
  ·trivial
  ·rename_i hwd
   refine valTo_ok R hr ht cs (Move.rfl' R.heap R.names) (fun n hn => by simp [SV.names, SV.namesL] at hn) ?_
   have := st_op_skip (P := P) (fn := C.top.fn) (k := k.map (SItem.den ρ)) (ds := dfs ρ C.top) (r := rk ρ C.top) (cs := fs ++ cs) (w := w) (rest := rest) ho (hw.2 hwd)
   exact .one (by simpa [SV.den, SV.denL, undef] using this)
  ·rename_i hwd
   have hwt := hw.1 hwd
   exact runR_ok hT hρ hO R hr ht ho hwt cs
end
end Go.Proofs.Ythenenacmiiphaa.Sx
