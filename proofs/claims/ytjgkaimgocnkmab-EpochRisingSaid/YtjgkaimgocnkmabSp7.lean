/- A reckoner of Go's small steps over letters: ways and their tests; what a region's operations did. No condition. -/
import Derived.Test.YtjgkaimgocnkmabSp6
import Derived.Orders
set_option linter.unusedVariables false
set_option linter.unusedSimpArgs false
set_option linter.deprecated false
namespace Go.Proofs.Ytjgkaimgocnkmab.Sx
open Go

/-- The ways share out what is known: one is gone, and one alone. -/
structure PcOk {α : Type} (F : Fns) (f : α → List BE) (pc : List BE) (l : List α) : Prop where
  some : ∀ ρ, Gd F ρ → Holds ρ pc → ∃ x ∈ l, Holds ρ (f x)
  back : ∀ ρ, ∀ x ∈ l, Holds ρ (f x) → Holds ρ pc
  one : ∀ ρ, ∀ x ∈ l, ∀ y ∈ l, Holds ρ (f x) → Holds ρ (f y) → x = y
section
variable {α β : Type} {F : Fns} {f : α → List BE} {g : β → List BE} {pc : List BE}
theorem fCells_eq {β : Type} : ∀ (l : List SV) (k : List SV → β), fCells l k = k l
  | [], k => rfl
  | v :: l, k => by simp only [fCells, fSV_eq, fCells_eq l]
theorem fWs_eq {β : Type} : ∀ (l : SHeap) (k : SHeap → β), fWs l k = k l
  | [], k => rfl
  | (n, o) :: l, k => by cases o <;> simp only [fWs, fCells_eq, fWs_eq l]
theorem PcOk.single (x : α) (h : f x = pc) : PcOk F f pc [x] :=
  ⟨fun ρ _ hp => ⟨x, by simp, h ▸ hp⟩, fun ρ y hy hp => by simp at hy; subst hy; exact h ▸ hp, fun ρ y hy z hz _ _ => by simp at hy hz; rw [hy, hz]⟩
theorem PcOk.split {c : BE} {l m : List α} (h1 : PcOk F f (c :: pc) l) (h2 : PcOk F f (.not c :: pc) m) : PcOk F f pc (l ++ m) := by
  refine ⟨?_, ?_, ?_⟩
  · intro ρ gd hp
    cases hc : c.den ρ with
    | true => obtain ⟨x, hx, hh⟩ := h1.some ρ gd (hp.cons hc); exact ⟨x, List.mem_append.2 (.inl hx), hh⟩
    | false => obtain ⟨x, hx, hh⟩ := h2.some ρ gd (hp.cons (by simp [den_not, hc])); exact ⟨x, List.mem_append.2 (.inr hx), hh⟩
  · intro ρ x hx hh
    rcases List.mem_append.1 hx with hx | hx
    · exact (h1.back ρ x hx hh).tail
    · exact (h2.back ρ x hx hh).tail
  · intro ρ x hx y hy h3 h4
    rcases List.mem_append.1 hx with hx | hx <;> rcases List.mem_append.1 hy with hy | hy
    · exact h1.one ρ x hx y hy h3 h4
    · have a := (h1.back ρ x hx h3).head
      have b := (h2.back ρ y hy h4).head
      simp [den_not, a] at b
    · have a := (h2.back ρ x hx h3).head
      have b := (h1.back ρ y hy h4).head
      simp [den_not, b] at a
    · exact h2.one ρ x hx y hy h3 h4
theorem PcOk.bind {l : List α} {k : α → List β} (h : PcOk F f pc l) (hk : ∀ x ∈ l, PcOk F g (f x) (k x)) : PcOk F g pc (l.flatMap k) := by
  refine ⟨?_, ?_, ?_⟩
  · intro ρ gd hp
    obtain ⟨x, hx, hh⟩ := h.some ρ gd hp
    obtain ⟨y, hy, h2⟩ := (hk x hx).some ρ gd hh
    exact ⟨y, List.mem_flatMap.2 ⟨x, hx, hy⟩, h2⟩
  · intro ρ y hy hh
    obtain ⟨x, hx, hy⟩ := List.mem_flatMap.1 hy
    exact h.back ρ x hx ((hk x hx).back ρ y hy hh)
  · intro ρ y hy z hz h1 h2
    obtain ⟨x, hx, hy⟩ := List.mem_flatMap.1 hy
    obtain ⟨x', hx', hz⟩ := List.mem_flatMap.1 hz
    have := h.one ρ x hx x' hx' ((hk x hx).back ρ y hy h1) ((hk x' hx').back ρ z hz h2)
    subst this
    exact (hk x hx).one ρ y hy z hz h1 h2
end
theorem RR.app_leaves {a b : RR} {l : List RLeaf} (h : RR.app a b = .leaves l) : ∃ l1 l2, a = .leaves l1 ∧ b = .leaves l2 ∧ l = l1 ++ l2 := by
  cases a <;> cases b <;> simp [RR.app] at h
  exact ⟨_, _, rfl, rfl, h.symm⟩
theorem Out.app_leaves {a b : Out} {l : List Leaf} (h : Out.app a b = .leaves l) : ∃ l1 l2, a = .leaves l1 ∧ b = .leaves l2 ∧ l = l1 ++ l2 := by
  cases a <;> cases b <;> simp [Out.app] at h
  exact ⟨_, _, rfl, rfl, h.symm⟩
def RR.lv : RR → List RLeaf
  | .leaves l => l
  | .fail _ => []
def Out.lv : Out → List Leaf
  | .leaves l => l
  | .fail _ _ => []
theorem overLeaves_ok {k : Leaf → RR} {ls : List Leaf} : ∀ {l : List RLeaf}, overLeaves k ls = .leaves l → (∀ x ∈ ls, k x = .leaves (k x).lv) ∧ l = ls.flatMap (fun x => (k x).lv) := by
  induction ls with
  | nil => intro l h; simp [overLeaves] at h; subst h; exact ⟨by simp, by simp⟩
  | cons x ls ih =>
    intro l h
    simp only [overLeaves] at h
    obtain ⟨l1, l2, h1, h2, rfl⟩ := RR.app_leaves h
    obtain ⟨hg, rfl⟩ := ih h2
    refine ⟨?_, ?_⟩
    · intro y hy
      rcases List.mem_cons.1 hy with rfl | hy
      · rw [h1]; rfl
      · exact hg y hy
    · simp [h1, RR.lv]
theorem overCfgs_ok {k : Cfg → Out} {ls : List Cfg} : ∀ {l : List Leaf}, overCfgs k ls = .leaves l → (∀ x ∈ ls, k x = .leaves (k x).lv) ∧ l = ls.flatMap (fun x => (k x).lv) := by
  induction ls with
  | nil => intro l h; simp [overCfgs] at h; subst h; exact ⟨by simp, by simp⟩
  | cons x ls ih =>
    intro l h
    simp only [overCfgs] at h
    obtain ⟨l1, l2, h1, h2, rfl⟩ := Out.app_leaves h
    obtain ⟨hg, rfl⟩ := ih h2
    refine ⟨?_, ?_⟩
    · intro y hy
      rcases List.mem_cons.1 hy with rfl | hy
      · rw [h1]; rfl
      · exact hg y hy
    · simp [h1, Out.lv]
/-- What the operations of a region did, in the order of the text. -/
inductive Trace (T : Tab) (sub : Cfg → Out) (ops : List Oper) : List Oper → List BE → Slots → SHeap → Nat → List Eff → List BE → Slots → SHeap → Nat → Prop
  | nil {pc sl h nx} : Trace T sub ops [] pc sl h nx [] pc sl h nx
  | skip {o l pc sl h nx effs pc' sl' h' nx'} : wantedS pc ops sl o = .skip →
      Trace T sub ops l pc (putD sl o.dst (.tup [])) h nx effs pc' sl' h' nx' →
      Trace T sub ops (o :: l) pc sl h nx ({ dst := o.dst, val := .tup [], touch := [], writes := [], gone := [], made := [], lo := nx, hi := nx } :: effs) pc' sl' h' nx'
  | run {o l pc sl h nx effs pc' sl' h' nx'} {F : List Nat} {ls : List Leaf} {lf : Leaf} {e : Eff} : wantedS pc ops sl o = .run →
      aloneOp T sub pc (keepH F h) nx sl o = .inl (.leaves ls) → lf ∈ ls → effOf o F h nx lf = some e →
      Trace T sub ops l lf.pc (putD sl o.dst lf.val) (e.made ++ rmAll (upAll h e.writes) e.gone) lf.next effs pc' sl' h' nx' →
      Trace T sub ops (o :: l) pc sl h nx (e :: effs) pc' sl' h' nx'
  | more {l c pc sl h nx effs pc' sl' h' nx'} : Trace T sub ops l (c :: pc) sl h nx effs pc' sl' h' nx' → Trace T sub ops l pc sl h nx effs pc' sl' h' nx'
def SubPc (F : Fns) (sub : Cfg → Out) : Prop := ∀ C ls, sub C = .leaves ls → PcOk F Leaf.pc C.pc ls
theorem PcOk.more {α : Type} {F : Fns} {f : α → List BE} {pc qs : List BE} (x : α) (h : f x = qs ++ pc) (hq : ∀ ρ, Gd F ρ → Holds ρ pc → Holds ρ qs) : PcOk F f pc [x] :=
  ⟨fun ρ g hp => ⟨x, by simp, by rw [h]; exact fun p hm => (List.mem_append.1 hm).elim (hq ρ g hp p) (hp p)⟩, fun ρ y hy hp => by simp at hy; subst hy; rw [h] at hp; exact fun p hm => hp p (List.mem_append.2 (.inr hm)), fun ρ y hy z hz _ _ => by simp at hy hz; rw [hy, hz]⟩
theorem aloneOp_pc {T : Tab} {sub : Cfg → Out} (hs : SubPc T.orac.F sub) (hP : PostsOk T.orac) {pc : List BE} {hF : SHeap} {nx : Nat} {sl : Slots} {o : Oper} {ls : List Leaf} (h : aloneOp T sub pc hF nx sl o = .inl (.leaves ls)) : PcOk T.orac.F Leaf.pc pc ls := by
  unfold aloneOp at h
  split at h
  · cases h; exact .single _ rfl
  · split at h
    · split at h
      · split at h
        · split at h
          · cases h; exact .single _ rfl
          · cases h; exact .single _ rfl
          · cases h
        · split at h
          · rename_i u hu
            cases h
            obtain ⟨c, hc, _, hu'⟩ := findC_use hu
            exact .more _ rfl (fun ρ g hp => useC_post g hp (hP c hc) hu')
          · cases h
          · simp only [Sum.inl.injEq] at h
            exact hs _ _ h
      · cases h
    · cases h
  · cases h
  · cases h
  · cases h
theorem regGo_ok {T : Tab} {sub : Cfg → Out} (hs : SubPc T.orac.F sub) (hP : PostsOk T.orac) {ops : List Oper} : ∀ (k : Nat) (l : List Oper) (pc : List BE) (sl : Slots) (h : SHeap) (nx : Nat) (effs : List Eff) (rls : List RLeaf),
    regGo T sub ops k l pc sl h nx effs = .leaves rls →
    PcOk T.orac.F RLeaf.pc pc rls ∧ ∀ r ∈ rls, ∃ effs', r.effs = effs.reverse ++ effs' ∧ Trace T sub ops l pc sl h nx effs' r.pc r.sl r.heap r.next := by
  intro k
  induction k with
  | zero => intro l pc sl h nx effs rls hh; simp [regGo] at hh
  | succ k ih =>
    intro l pc sl h nx effs rls hh
    have hsplit : ∀ (o : Oper) (l : List Oper) (c : BE), (fBE c fun c => RR.app (regGo T sub ops k (o :: l) (c :: pc) sl h nx effs) (regGo T sub ops k (o :: l) (.not c :: pc) sl h nx effs)) = .leaves rls →
        PcOk T.orac.F RLeaf.pc pc rls ∧ ∀ r ∈ rls, ∃ effs', r.effs = effs.reverse ++ effs' ∧ Trace T sub ops (o :: l) pc sl h nx effs' r.pc r.sl r.heap r.next := by
      intro o l c hc
      rw [fBE_eq] at hc
      obtain ⟨l1, l2, h1, h2, rfl⟩ := RR.app_leaves hc
      obtain ⟨p1, t1⟩ := ih _ _ _ _ _ _ _ h1
      obtain ⟨p2, t2⟩ := ih _ _ _ _ _ _ _ h2
      refine ⟨p1.split p2, ?_⟩
      intro r hr
      rcases List.mem_append.1 hr with hr | hr
      · obtain ⟨e, he, ht⟩ := t1 r hr; exact ⟨e, he, .more ht⟩
      · obtain ⟨e, he, ht⟩ := t2 r hr; exact ⟨e, he, .more ht⟩
    cases l with
    | nil =>
      simp only [regGo, RR.leaves.injEq] at hh
      subst hh
      refine ⟨.single _ rfl, ?_⟩
      intro r hr
      simp at hr
      subst hr
      exact ⟨[], by simp, .nil⟩
    | cons o l =>
      simp only [regGo] at hh
      split at hh
      · cases hh
      · exact hsplit o l _ hh
      · rename_i hw
        obtain ⟨p1, t1⟩ := ih _ _ _ _ _ _ _ hh
        refine ⟨p1, ?_⟩
        intro r hr
        obtain ⟨e, he, ht⟩ := t1 r hr
        exact ⟨_ :: e, by simpa using he, .skip hw ht⟩
      · rename_i hw
        rw [fL_eq] at hh
        generalize hF : (if isPure o.op then [] else touchOf h sl o) = F at hh
        split at hh
        · exact hsplit o l _ hh
        · cases hh
        · rename_i ls hls
          obtain ⟨kk, hkk, hsome, hnone⟩ : ∃ kk : Leaf → RR, overLeaves kk ls = .leaves rls ∧ (∀ x e, effOf o F h nx x = some e → kk x = regGo T sub ops k l x.pc (putD sl o.dst x.val) (e.made ++ rmAll (upAll h e.writes) e.gone) x.next (e :: effs)) ∧ (∀ x, effOf o F h nx x = none → kk x = .fail 211) :=
            ⟨_, hh, fun x e he => by simp only [he, fWs_eq, fL_eq], fun x he => by simp only [he]⟩
          obtain ⟨hk, rfl⟩ := overLeaves_ok hkk
          have hpc := aloneOp_pc hs hP hls
          have hx : ∀ x ∈ ls, ∃ e, effOf o F h nx x = some e ∧ regGo T sub ops k l x.pc (putD sl o.dst x.val) (e.made ++ rmAll (upAll h e.writes) e.gone) x.next (e :: effs) = .leaves (kk x).lv := by
            intro x hx
            have h1 := hk x hx
            cases he : effOf o F h nx x with
            | none => rw [hnone x he] at h1; cases h1
            | some e => exact ⟨e, rfl, by rw [← hsome x e he]; exact h1⟩
          refine ⟨hpc.bind ?_, ?_⟩
          · intro x hxm
            obtain ⟨e, he, hr⟩ := hx x hxm
            exact (ih _ _ _ _ _ _ _ hr).1
          · intro r hr
            obtain ⟨x, hxm, hr⟩ := List.mem_flatMap.1 hr
            obtain ⟨e, he, hreg⟩ := hx x hxm
            obtain ⟨e', he', ht⟩ := (ih _ _ _ _ _ _ _ hreg).2 r hr
            exact ⟨e :: e', by simpa using he', .run hw hls hxm he ht⟩
end Go.Proofs.Ytjgkaimgocnkmab.Sx
