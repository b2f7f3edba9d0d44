/- A reckoner of Go's small steps over letters: what is known of a region's operations, one by one. No condition. -/
import Derived.Test.YtjgkaimgocnkmabSp11
set_option linter.unusedVariables false
set_option linter.unusedSimpArgs false
set_option linter.deprecated false
namespace Go.Proofs.Ytjgkaimgocnkmab.Sx
open Go
def all : Nat → Bool := fun _ => true
section
variable {P : Program} {T : Tab} {b0 : World} {sub : Cfg → Out} {ρ : Rho}
structure Fact (P : Program) (b0 : World) (orac : Orc) (ρ : Rho) (ops : Array Oper) (nx0 N : Nat) (es : List Eff) (slI : Nat → Option SV) (hI : Nat → Option SObj) (m j : Nat) (e : Eff) (o : Oper) : Prop where
  loc : Local P b0 orac ρ ops (fun t => stX apS es all j t (slI t)) (fun x => stX apH es all j x (hI x)) (m + j) o e
  dst : e.dst = o.dst
  lo : nx0 ≤ e.lo
  lh : e.lo ≤ e.hi
  hi : e.hi ≤ N
  val : NamesV e.hi e.val
  objs : ∀ x o', (lk e.made x = some o' ∨ lk e.writes x = some o') → ∀ y ∈ o'.names, y < e.hi
  made : ∀ x, (lk e.made x).isSome = true → e.lo ≤ x ∧ x < e.hi
  st : ∀ x o', stX apH es all j x (hI x) = some o' → x < e.lo ∧ ∀ y ∈ o'.names, y < e.lo
  wr : ∀ x, (lk e.writes x).isSome = true → memN x e.touch = true ∧ (stX apH es all j x (hI x)).isSome = true
  gn : ∀ x, memN x e.gone = true → memN x e.touch = true ∧ (stX apH es all j x (hI x)).isSome = true
theorem trace_pc {ops l : List Oper} {pc pc' : List BE} {sl sl' : Slots} {h h' : SHeap} {nx nx' : Nat} {effs : List Eff} (hs : SubPc T.orac.F sub) (hP : PostsOk T.orac)
    (ht : Trace T sub ops l pc sl h nx effs pc' sl' h' nx') (hp : Holds ρ pc') : Holds ρ pc := by
  induction ht with
  | nil => exact hp
  | skip _ _ ih => exact ih hp
  | run hw ha hl he _ ih => exact (aloneOp_pc hs hP ha).back ρ _ hl (ih hp)
  | more _ ih => exact (ih hp).tail
theorem skip_local {ops : Array Oper} {pc : List BE} {sl : Slots} {h : SHeap} {nx : Nat} {o : Oper} {j : Nat} (hρ : ρ.Ok) (hp : Holds ρ pc) (ho : ops[j]? = some o) (hw : wantedS pc ops.toList sl o = .skip) (orac : Orc) :
    Local P b0 orac ρ ops (get2 sl) (lk h) j o { dst := o.dst, val := .tup [], touch := [], writes := [], gone := [], made := [], lo := nx, hi := nx } := by
  intro ρ1 w1 tm fn k ds r cs rest hsame hl H
  have hw' := (wanted_run (hsame.ok hρ) ((hsame.holds).2 hp) hl).2 hw
  refine ⟨ρ1, w1, .refl _ _ _, ?_, ?_, Nat.le_refl _, fun _ _ _ => rfl, by simp [lk_nil], by simp [memN], by simp [lk_nil], Nat.le_refl _, fun n hn => by simp [SV.names, SV.namesL] at hn, by simp [lk_nil]⟩
  · exact .one (by simpa [SV.den, SV.denL, undef] using st_op_skip (P := P) (fn := fn) (k := k) (ds := ds) (r := r) (cs := cs) (w := w1) ho hw')
  · refine H.part fun n o' hn => ?_
    simp [memN, apH, lk_nil] at hn
theorem getElem?_drop0 {α : Type} {l : List α} {m : Nat} {x : α} {xs : List α} (h : x :: xs = l.drop m) : l[m]? = some x ∧ xs = l.drop (m + 1) := by
  have h0 : (l.drop m)[0]? = some x := by rw [← h]; rfl
  refine ⟨by simpa using h0, ?_⟩
  have : (l.drop m).tail = xs := by rw [← h]; rfl
  rw [← this]; simp
theorem stX_all {V : Type} (ap : Eff → Nat → Option V → Option V) (e : Eff) (es : List Eff) (m x : Nat) (v : Option V) : stX ap (e :: es) all (m + 1) x v = stX ap es all m x (ap e x v) := rfl
theorem stX_zero {V : Type} (ap : Eff → Nat → Option V → Option V) (es : List Eff) (D : Nat → Bool) (x : Nat) (v : Option V) : stX ap es D 0 x v = v := by cases es <;> rfl
/-- What is known behind a stretch of a region. -/
structure Concl (P : Program) (b0 : World) (orac : Orc) (ρ : Rho) (ops : Array Oper) (m len : Nat) (sl : Slots) (h : SHeap) (nx : Nat) (effs : List Eff) (sl' : Slots) (h' : SHeap) (nx' : Nat) : Prop where
  le : nx ≤ nx'
  hn : HNames nx' h'
  sn : SNames nx' sl'
  len : effs.length = len
  slots : ∀ t, get2 sl' t = stX apS effs all effs.length t (get2 sl t)
  heap : ∀ x, lk h' x = stX apH effs all effs.length x (lk h x)
  facts : ∀ j e, effs[j]? = some e → ∃ o, ops[m + j]? = some o ∧ Fact P b0 orac ρ ops nx nx' effs (get2 sl) (lk h) m j e o
  order : ∀ (i j : Nat) (a b : Eff), i < j → effs[i]? = some a → effs[j]? = some b → a.hi ≤ b.lo
theorem cons_facts {orac : Orc} {ops : Array Oper} {m len N nx nxn nx' : Nat} {sl sl' : Slots} {h hn h' : SHeap} {effs : List Eff} {E : Eff} {o : Oper} {v : SV} (ho : ops[m]? = some o)
    (hloc : Local P b0 orac ρ ops (get2 sl) (lk h) m o E) (e1 : E.dst = o.dst) (e2 : E.val = v) (e3 : E.lo = nx) (e4 : E.hi = nxn) (e6 : ∀ x, lk hn x = apH E x (lk h x))
    (hd : Dom N sl) (hv : ∃ ρv wv, Same ρ ρv ∧ HeapR ρv b0 h wv) (hnm : HNames nx h) (hsn : SNames nx sl)
    (ih : Dom N (putD sl o.dst v) → (∃ ρv wv, Same ρ ρv ∧ HeapR ρv b0 hn wv) → HNames nxn hn → SNames nxn (putD sl o.dst v) → Concl P b0 orac ρ ops (m + 1) len (putD sl o.dst v) hn nxn effs sl' h' nx') :
    Concl P b0 orac ρ ops m (len + 1) sl h nx (E :: effs) sl' h' nx' := by
  have hdst : ∀ t, get2 (putD sl o.dst v) t = apS E t (get2 sl t) := fun t => get2_putD sl o _ E e1 e2 t
  obtain ⟨ρv, wv, hsame, Hv⟩ := hv
  obtain ⟨X, hX⟩ := hd.arr ρv
  have hnxlo : ∀ x o', lk h x = some o' → (x < E.lo ∨ E.hi ≤ x) ∧ (memN x E.touch = true ∨ ∀ y ∈ o'.names, y < E.lo ∨ E.hi ≤ y) := by
    intro x o' hx
    rw [e3]
    exact ⟨.inl (hnm x o' hx).1, .inr fun y hy => .inl ((hnm x o' hx).2 y hy)⟩
  obtain ⟨ρ', w', g, _, H2, hsz, hsm, hmd, hgn, hwr, hle, hnv, hob⟩ := hloc ρv wv X 0 [] [] none [] [] hsame (fun t _ => hX t) (Hv.part fun n o' hn' => by
    split at hn'
    · exact hn'
    · cases hn')
  have Hm := merge (L := lk h) Hv g H2 hnxlo hmd (fun x hx => (hgn x hx).1) hwr hsz hsm
  have Hn : HeapR ρ' b0 hn w' := Hm.part fun n o' hn' => by rw [← e6 n]; exact hn'
  have hnames : HNames nxn hn := by
    intro x o' hx
    rw [e6 x] at hx
    rw [← e4]
    unfold apH at hx
    cases h1 : lk E.made x with
    | some q =>
      simp only [h1] at hx
      cases hx
      exact ⟨(hmd x (by simp [h1])).2.1, hob x _ (.inl h1)⟩
    | none =>
      simp only [h1] at hx
      cases h2 : lk E.writes x with
      | some q =>
        simp only [h2] at hx
        cases hx
        obtain ⟨_, hs2⟩ := hwr x (by simp [h2])
        obtain ⟨q2, hq2⟩ := Option.isSome_iff_exists.1 hs2
        exact ⟨Nat.lt_of_lt_of_le (hnm x q2 hq2).1 (by omega), hob x _ (.inr h2)⟩
      | none =>
        simp only [h2] at hx
        split at hx
        · cases hx
        obtain ⟨b1, b2⟩ := hnm x o' hx
        exact ⟨by omega, fun y hy => Nat.lt_of_lt_of_le (b2 y hy) (by omega)⟩
  have hnxle : nx ≤ nxn := by omega
  have C := ih (hd.put _ _) ⟨ρ', w', hsame.trans g.same, Hn⟩ hnames ((hsn.le hnxle).putD _ (by rw [← e2, ← e4]; exact hnv))
  refine ⟨Nat.le_trans hnxle C.le, C.hn, C.sn, by simp [C.len], ?_, ?_, ?_, ?_⟩
  · intro t; rw [C.slots t, hdst t]; rfl
  · intro x; rw [C.heap x, e6 x]; rfl
  · intro j e he
    cases j with
    | zero =>
      simp at he
      subst he
      refine ⟨o, by simpa using ho, ?_⟩
      refine ⟨?_, e1, by rw [e3]; exact Nat.le_refl _, hle, by rw [e4]; exact C.le, hnv, hob, fun x hx => ⟨(hmd x hx).1, (hmd x hx).2.1⟩, ?_, ?_, ?_⟩
      · simp only [stX_zero, Nat.add_zero]; exact hloc
      · intro x o' hx
        rw [e3]
        rw [stX_zero] at hx
        exact hnm x o' hx
      · intro x hx
        rw [stX_zero]
        exact hwr x hx
      · intro x hx
        rw [stX_zero]
        exact hgn x hx
    | succ j =>
      obtain ⟨o', ho', hf⟩ := C.facts j e (by simpa using he)
      refine ⟨o', by rw [← ho']; congr 1; omega, ?_⟩
      refine ⟨?_, hf.dst, Nat.le_trans hnxle hf.lo, hf.lh, hf.hi, hf.val, hf.objs, hf.made, ?_, ?_, ?_⟩
      · have := hf.loc
        rw [show m + 1 + j = m + (j + 1) by omega] at this
        simp only [hdst, e6] at this
        simp only [stX_all]
        exact this
      · intro x o2 hx
        refine hf.st x o2 ?_
        rw [e6 x]
        rw [stX_all] at hx
        exact hx
      · intro x hx
        have := hf.wr x hx
        rw [e6 x] at this
        rw [stX_all]
        exact this
      · intro x hx
        have := hf.gn x hx
        rw [e6 x] at this
        rw [stX_all]
        exact this
  · intro i j a b hij ha' hb
    cases j with
    | zero => omega
    | succ j =>
      cases i with
      | zero =>
        simp at ha'
        subst ha'
        obtain ⟨_, _, hf⟩ := C.facts j b (by simpa using hb)
        rw [e4]; exact hf.lo
      | succ i => exact C.order i j a b (by omega) (by simpa using ha') (by simpa using hb)
theorem trace_facts (hT : T.Ok P) (hs : SubOk P b0 T.orac sub) (hρ : ρ.Ok) (hO : OracOk P b0 T.orac ρ) {ops : Array Oper} (hpl : ∀ o ∈ ops.toList, plainOp o = true)
    {l : List Oper} {pc pc' : List BE} {sl sl' : Slots} {h h' : SHeap} {nx nx' : Nat} {effs : List Eff}
    (ht : Trace T sub ops.toList l pc sl h nx effs pc' sl' h' nx') (hp : Holds ρ pc') : ∀ (m N : Nat), l = ops.toList.drop m → Dom N sl →
    (∃ ρv wv, Same ρ ρv ∧ HeapR ρv b0 h wv) → HNames nx h → SNames nx sl → Concl P b0 T.orac ρ ops m l.length sl h nx effs sl' h' nx' := by
  have hsp : SubPc T.orac.F sub := fun C ls h => (hs C ls h).1
  induction ht with
  | nil =>
    intro m N hl hd hv hn hsn
    exact ⟨Nat.le_refl _, hn, hsn, rfl, fun t => rfl, fun x => rfl, by simp, by simp⟩
  | more _ ih => exact ih hp
  | @skip o l pc sl h nx effs pc' sl' h' nx' hw htr ih =>
    intro m N hl hd hv hn hsn
    obtain ⟨ho, hl'⟩ := getElem?_drop0 hl
    rw [Array.getElem?_toList] at ho
    have hpc := trace_pc (ρ := ρ) hsp hT.posts htr hp
    exact cons_facts (v := .tup []) ho (skip_local (P := P) (b0 := b0) (h := h) (nx := nx) hρ hpc ho hw T.orac) rfl rfl rfl rfl (fun x => by simp [apH, lk_nil, memN]) hd hv hn hsn (fun a b c d => ih hp (m + 1) N hl' a b c d)
  | @run o l pc sl h nx effs pc' sl' h' nx' F ls lf E hw ha hlf he htr ih =>
    intro m N hl hd hv hn hsn
    obtain ⟨ho, hl'⟩ := getElem?_drop0 hl
    rw [Array.getElem?_toList] at ho
    have hpl0 : plainOp o = true := hpl o (List.mem_of_mem_drop (hl ▸ List.mem_cons_self ..))
    have hpcn := trace_pc (ρ := ρ) hsp hT.posts htr hp
    have hpc := (aloneOp_pc hsp hT.posts ha).back ρ _ hlf hpcn
    obtain ⟨hloc, e1, e2, e3, e4, e5, e6⟩ := loc_run hT hs hρ hO hpc hn hsn hd ho hpl0 hw ha hlf hpcn he
    exact cons_facts ho hloc e1 e2 e3 e4 e6 hd hv hn hsn (fun a b c d => ih hp (m + 1) N hl' a b c d)
end
end Go.Proofs.Ytjgkaimgocnkmab.Sx
