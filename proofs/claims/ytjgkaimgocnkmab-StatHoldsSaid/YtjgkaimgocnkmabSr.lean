/- From a run of the reckoner to a law's row. No condition. -/
import Derived.Test.YtjgkaimgocnkmabStab
import Derived.Test.YtjgkaimgocnkmabRows
import Derived.Test.YtjgkaimgocnkmabChecked
import Derived.ProofKit
import Derived.OpenShut
import Derived.Lib.SmallJoins
import Derived.ChangeMaps5
set_option linter.unusedSimpArgs false
set_option linter.deprecated false
set_option linter.unusedVariables false
namespace Go.Proofs.Ytjgkaimgocnkmab
open Go.ChangeShapes Go.WideShapes Go.ChangeAt Go.RowKit Go.Joins

theorem own : ownKnob Try.prog.godebug = none := by kernel_rfl

theorem trodAll_below {H : Type} {enc : TypeId × Value → H} {P : Program} (hl : laidOutB P = true) {W W' : World} (hb : Below W.heap.size W W') :
    ∀ {ts : List TypeId} {vs : List Value} {ds : List (DataW H)} {ps : List MemPlace}, (ts.all fun t => P.readableRec t && decide (t < P.types.size)) = true → DataW.TrodAll enc P W 0 (fun _ => true) true ts vs ds ps → (∀ x ∈ ps, x.block < W.heap.size) →
      DataW.TrodAll enc P W' 0 (fun b => decide (b < W.heap.size)) true ts vs ds ps
  | [], vs, ds, ps, _, h, _ => by
    obtain ⟨rfl, rfl, rfl⟩ := trodAll_nil h
    exact trodAll_mk0
  | t :: ts, vs, ds, ps, hr, h, hlt => by
    obtain ⟨v0, vs0, d0, ds0, p0, q0, rfl, rfl, rfl, h0, r0⟩ := trodAll_cons h
    simp only [List.all_cons, Bool.and_eq_true, decide_eq_true_eq] at hr
    exact trodAll_cons_mk (Below.trod hl hr.1.1 hr.1.2 h0 hb (fun x hx => hlt x (by simp [hx]))) (trodAll_below hl hb hr.2 r0 (fun x hx => hlt x (by simp [hx])))

/-- THE ROW OF A LAW, WHATEVER ITS ARGUMENTS: it has returned true, and of what was there nothing has turned. -/
theorem law_post {H : Type} {enc : TypeId × Value → H} {P : Program} {f : Func} {s : ChangeSpec} {apart fresh handsOn : Bool} {W W' : World} {args : Array Value} {ds : List (DataW H)} {p : List MemPlace} {tb : TypeId}
    (hl : laidOutB P = true) (hr : (f.params.toList.all fun t => P.readableRec t && decide (t < P.types.size)) = true) (hres : f.resultTypes = #[tb]) (htb : P.underlying tb = some .bool) (hsv : s.vars = [])
    (hW : DataW.Whole enc P f.params.toList s.vars apart W args.toList ds [] p) (hA : DataW.TrodAll enc P W 0 (fun _ => true) true f.params.toList args.toList ds p)
    (hs : s.fn H (ds ++ []) = { results := [.lit (.bool true)], args := ds }) (hb : Below W.heap.size W W') : s.post enc P f apart fresh handsOn false W args (.bool true) W' := by
  refine ⟨ds, [], p, [], p, [], hW, ?_, ?_, ?_, World.keptBut_mono (fun x hx => ⟨hx, Or.inr (by simpa using hx)⟩) (hb.frame (· ∈ p)), fun h => by cases h⟩
  · rw [hs, hres]
    exact trodAll_cons_mk (shut_bool htb _) trodAll_mk0
  · rw [hs]
    exact trodAll_below hl hb hr hA (fun x hx => hW.lt x hx)
  · rw [hs, hsv]
    exact rfl
theorem below_of {P : Program} {f : FuncId} {args : Array Value} {w : World} (h : Calls P f args w fun e w' => e = .returned (.bool true) ∧ w.grownBy w' none) : Calls P f args w fun e w' => e = .returned (.bool true) ∧ Below w.heap.size w w' :=
  h.mono fun e w' ⟨he, hg⟩ => ⟨he, ⟨hg.os, hg.tape, hg.output, hg.size, fun k hk => hg.block k hk (by simp)⟩⟩
theorem _root_.Go.Calls.below {P : Program} {f : FuncId} {args : Array Value} {w : World} (h : Calls P f args w fun e w' => e = .returned (.bool true) ∧ w.grownBy w' none) : Calls P f args w fun e w' => e = .returned (.bool true) ∧ Below w.heap.size w w' := below_of h
/-! Letters, given. -/
namespace Sx
structure Num where
  n : Nat
  k : IntKind
  v : Int
def numAt : List Num → IntKind → Nat → Int
  | [], _, _ => 0
  | x :: l, k, n => if keq x.k k then (if Nat.beq x.n n then x.v else numAt l k n) else numAt l k n
/-- A slice that came in: where it lies; each cell of it is of its kind. -/
structure RSl where
  a : Option Addr
  len : Nat
  cap : Nat
  ks : List CK
def RSl.at (r : RSl) : Addr := r.a.getD ⟨0, 0, none⟩
def RSl.none : RSl := ⟨.none, 0, 0, []⟩
def valO : Option Value → Value
  | some v => v
  | .none => .bool false
/-- What a slice holds. -/
def rowOf (w : World) (r : RSl) : LV := (List.range r.len).map fun i => (List.range r.ks.length).map fun c => valO (w.cell? ((r.at.add (i * r.ks.length)).add c))
def envOf (F : Fns) (w : World) (rs : Nat → RSl) : Env := { F := F, rl := fun r => rowOf w (rs r), ra := fun r => (rs r).a, rb := fun r => (rs r).at.block, ro := fun r => (rs r).at.off, rc := fun r => (rs r).cap, re := fun r => (rs r).ks.length }
def lAt : List (Nat × LV) → Nat → LV
  | [], _ => []
  | (m, x) :: l, n => if Nat.beq m n then x else lAt l n
def rho (l : List Num) (bs : List Bool) (ls : List (Nat × LV)) (z : Env) : Rho := { i := numAt l, b := fun n => bs.getD n false, l := lAt ls, v := fun _ => .bool false, a := fun _ => 0, z := z }
theorem k0_lo (k : IntKind) : kmin k ≤ (0 : Int) := by cases k <;> decide
theorem k0_hi (k : IntKind) : (0 : Int) ≤ kmax k := by cases k <;> decide
def NumsOk : List Num → Prop
  | [] => True
  | x :: l => (kmin x.k ≤ x.v ∧ x.v ≤ kmax x.k) ∧ NumsOk l
theorem rho_ok' : ∀ {l : List Num}, NumsOk l → ∀ k n, kmin k ≤ numAt l k n ∧ numAt l k n ≤ kmax k
  | [], _, k, n => by show kmin k ≤ (0 : Int) ∧ (0 : Int) ≤ kmax k; cases k <;> decide
  | x :: l, h, k, n => by
    simp only [numAt]
    split
    · rename_i e
      rw [← (keq_iff _ _).1 e]
      split
      · exact h.1
      · exact rho_ok' h.2 _ _
    · exact rho_ok' h.2 _ _
def LsOk : List (Nat × LV) → Prop
  | [] => True
  | (n, x) :: l => (Typed byteK x ∧ (x.length : Int) ≤ 9223372036854775807) ∧ LsOk l
theorem ls_ok : ∀ {l : List (Nat × LV)}, LsOk l → ∀ n, Typed byteK (lAt l n) ∧ ((lAt l n).length : Int) ≤ 9223372036854775807
  | [], _, n => ⟨.nil _, by simp [lAt]⟩
  | (m, x) :: l, h, n => by
    simp only [lAt]
    split
    · exact h.1
    · exact ls_ok h.2 n
/-- Functions whose texts are texts. -/
def OddOk (F : Fns) : Prop := ∀ n a, oddN n = true → Typed byteK (F.l n a)
theorem rho_ok {l : List Num} {bs : List Bool} {ls : List (Nat × LV)} {F : Fns} {w : World} {rs : Nat → RSl} (h : NumsOk l) (h2 : LsOk ls) (hF : OddOk F) (hr : ∀ r, (rs r).len ≤ maxLen) : (rho l bs ls (envOf F w rs)).Ok :=
  ⟨fun k n => (rho_ok' h k n).1, fun k n => (rho_ok' h k n).2, fun n => (ls_ok h2 n).2, fun n _ => (ls_ok h2 n).1, fun r => by
    have := hr r
    simp only [maxLen] at this
    show (((rowOf w (rs r)).length : Nat) : Int) ≤ 9223372036854775807
    simp [rowOf]; omega, hF⟩
theorem rho_gd {l : List Num} {bs : List Bool} {ls : List (Nat × LV)} {F : Fns} {w : World} {rs : Nat → RSl} (h : NumsOk l) (h2 : LsOk ls) (hF : OddOk F) (hr : ∀ r, (rs r).len ≤ maxLen) : Gd F (rho l bs ls (envOf F w rs)) := ⟨rho_ok h h2 hF hr, rfl⟩
/- told calls, made -/
noncomputable def T (F : Fns) (roms : Roms) (cs : List Ctr) : Tab := tab ⟨F, [], roms, cs⟩
/-- A call as a configuration. -/
noncomputable def startF (f : FuncId) (pat : List SV) (pc : List BE) : Cfg := match fns.get f with
  | some F => (match F.body with
    | some c => { top := frameOf f F c pat, rest := [], heap := [], next := 0, pc := pc }
    | none => ⟨⟨0, [], [], [], false, none⟩, [], [], 0, []⟩)
  | none => ⟨⟨0, [], [], [], false, none⟩, [], [], 0, []⟩
def hasBody (f : FuncId) : Prop := ∃ F c, fns.get f = some F ∧ F.body = some c
noncomputable def bodyB (f : FuncId) : Bool := match fns.get f with
  | some F => (match F.body with
    | some _ => true
    | none => false)
  | none => false
theorem bodyB_ok {f : FuncId} (h : bodyB f = true) : hasBody f := by
  unfold bodyB at h
  split at h
  · rename_i F hF
    split at h
    · rename_i c hc; exact ⟨F, c, hF, hc⟩
    · cases h
  · cases h
/-- A call that is told, and what is said of it. -/
structure Told (F : Fns) (c : Ctr) : Prop where
  ok : CtrOk Try.prog F c
  post : PostOk F c
def noLean (l : List BE) : Bool := match leanOf l with
  | [] => true
  | _ => false
def ctrFlat (c : Ctr) : Bool := if noLean c.pre then (if c.res.flat2 then (if flatH c.heap then (if freeL c.post then freeL c.pre else false) else false) else false) else false
def namesB (N : Nat) : List Nat → Bool
  | [] => true
  | n :: l => if Nat.blt n N then namesB N l else false
def lowH (N : Nat) : SHeap → Bool
  | [] => true
  | (n, o) :: h => if Nat.blt n N then (if namesB N o.names then lowH N h else false) else false
def ctrNames (c : Ctr) : Bool := if lowH c.cnt c.heap then (if namesB c.cnt c.res.names then (match SV.namesL c.pat with
  | [] => true
  | _ => false) else false) else false
theorem namesB_ok {N : Nat} : ∀ {l : List Nat}, namesB N l = true → ∀ n ∈ l, n < N
  | [], _, n, h => by cases h
  | m :: l, h, n, hn => by
    obtain ⟨h1, h2⟩ := ifb h
    rcases List.mem_cons.1 hn with rfl | hn
    · simpa [Nat.blt_eq] using h1
    · exact namesB_ok h2 n hn
theorem lowH_ok {N : Nat} : ∀ {h : SHeap}, lowH N h = true → HNames N h ∧ ∀ p ∈ h, p.1 < N
  | [], _ => ⟨(fun n o hl => by rw [lk_nil] at hl; cases hl), (fun p hp => by cases hp)⟩
  | (m, q) :: t, h => by
    obtain ⟨h1, h2⟩ := ifb h
    obtain ⟨h3, h4⟩ := ifb h2
    obtain ⟨a, b⟩ := lowH_ok h4
    have hm : m < N := by simpa [Nat.blt_eq] using h1
    refine ⟨fun n o hl => ?_, fun p hp => ?_⟩
    · rw [lk_cons] at hl
      split at hl
      · rename_i e; subst e; cases hl; exact ⟨hm, namesB_ok h3⟩
      · exact a n o hl
    · rcases List.mem_cons.1 hp with rfl | hp
      · exact hm
      · exact b p hp
theorem told_of {F : Fns} {c : Ctr} {cs : List Ctr} (hcs : ∀ d ∈ cs, Told F d) {sel : Sel} (n : Nat) (tm : List (Nat × Cfg)) (inv : Nat → Lt → Prop) (ms : Nat → Lt → Nat) (vw : Nat → List VW) (k0 : Nat) {pc0 : List BE} (hb : bodyB c.f = true) (hflat : ctrFlat c = true) (hnames : ctrNames c = true) (hpost : PostOk F c)
    (hok : ∀ k C, lk tm k = some C → cfgOk C = true) (hseg : ∀ k C, lk tm k = some C → segL c.roms c (seg (T F c.roms cs) sel n tm C) = (true, codesR tm (views (seg (T F c.roms cs) sel n tm C)), vw k)) (hvc : ∀ k C, lk tm k = some C → ∀ v ∈ vw k, VC (T F c.roms cs) inv ms k C v)
    (h0 : lk tm k0 = some (startF c.f c.pat pc0)) (hpre : ∀ ρ : Rho, Gd F ρ → Holds ρ c.pre → Holds ρ pc0) (hi : ∀ ρ : Rho, Gd F ρ → RTyped c.roms ρ → Holds ρ c.pre → inv k0 ρ.lt) (hlean : ∀ k C, lk tm k = some C → ∀ ρ, Known (T F c.roms cs) C ρ → inv k ρ.lt → Holds ρ (leanOf C.pc)) : Told F c := by
  refine ⟨?_, hpost⟩
  obtain ⟨Fn, code, hF, hc⟩ := bodyB_ok hb
  obtain ⟨_, hflat⟩ := ifb hflat
  obtain ⟨f1, f2⟩ := ifb hflat
  obtain ⟨f3, f4⟩ := ifb f2
  obtain ⟨f5, f6⟩ := ifb f4
  obtain ⟨n1, n2⟩ := ifb hnames
  obtain ⟨n3, n4⟩ := ifb n2
  obtain ⟨n5, n6⟩ := lowH_ok n1
  have nl : SV.namesL c.pat = [] := by
    split at n4
    · assumption
    · cases n4
  have hT : Tab.Ok Try.prog (T F c.roms cs) := tab_ok' _ (fun d hd => (hcs d hd).post)
  have hst : startF c.f c.pat pc0 = { top := frameOf c.f Fn code c.pat, rest := [], heap := [], next := 0, pc := pc0 } := by
    unfold startF
    rw [hF]
    simp only [hc]
  exact ctr_of (sel := sel) hT n c tm inv ms vw k0 (F := Fn) (code := code) hF hc rfl ⟨f1, f3, f5, f6⟩ ⟨n5, namesB_ok n3, nl, n6⟩ hok hseg hvc hlean (by rw [h0, hst]) hpre hi
    rfl (fun d hd => (hcs d hd).ok)
theorem noLean_ok {l : List BE} (h : noLean l = true) : leanOf l = [] := by
  unfold noLean at h
  split at h
  · assumption
  · cases h
theorem flat_start {c : Ctr} (h : ctrFlat c = true) : leanOf (startF c.f c.pat (.lit true :: c.pre)).pc = [] := by
  have e := noLean_ok (ifb h).1
  unfold startF
  split
  · split
    · simpa [leanOf, isMark] using e
    · rfl
  · rfl
/- calls without templates -/
noncomputable def doneNil : View → VW → Bool
  | .done _, .done _ (some []) => true
  | _, _ => false
noncomputable def allDone (roms : Roms) (c : Ctr) : List View → Bool
  | [] => true
  | v :: l => if doneNil v (stripV roms c v) then allDone roms c l else false
noncomputable def autoOk (F : Fns) (c : Ctr) (cs : List Ctr) (n : Nat) : Bool :=
  match seg (T F c.roms cs) [] n [(0, startF c.f c.pat (.lit true :: c.pre))] (startF c.f c.pat (.lit true :: c.pre)) with
  | .ok l => allDone c.roms c l
  | .fail _ _ => false
theorem allDone_ok {roms : Roms} {c : Ctr} {tm : List (Nat × Cfg)} : ∀ {l : List View}, allDone roms c l = true → codesL l = [] ∧ codesR tm l = [] ∧ ∀ v ∈ stripL roms c l, ∃ pc, v = .done pc (some [])
  | [], _ => ⟨rfl, rfl, (fun v h => by cases h)⟩
  | v :: l, h => by
    obtain ⟨h1, h2⟩ := ifb h
    obtain ⟨a, b, d⟩ := allDone_ok (tm := tm) h2
    unfold doneNil at h1
    split at h1
    · rename_i lf pc hq
      refine ⟨a, b, fun v hv => ?_⟩
      rcases List.mem_cons.1 hv with rfl | hv
      · exact ⟨pc, hq⟩
      · exact d v hv
    · cases h1
theorem told_auto {F : Fns} {c : Ctr} {cs : List Ctr} (hcs : ∀ d ∈ cs, Told F d) (n : Nat) (hb : bodyB c.f = true) (hflat : ctrFlat c = true) (hnames : ctrNames c = true) (hpost : PostOk F c) (hok : cfgOk (startF c.f c.pat (.lit true :: c.pre)) = true) (h : autoOk F c cs n = true) : Told F c := by
  unfold autoOk at h
  split at h
  · rename_i l hl
    obtain ⟨a, b, d⟩ := allDone_ok (tm := [(0, startF c.f c.pat (.lit true :: c.pre))]) h
    have e0 : ∀ k C, lk [(0, startF c.f c.pat (.lit true :: c.pre))] k = some C → C = startF c.f c.pat (.lit true :: c.pre) := by
      intro k C hk
      rw [lk_cons, lk_nil] at hk
      split at hk
      · cases hk; rfl
      · cases hk
    refine told_of hcs (sel := []) n [(0, startF c.f c.pat (.lit true :: c.pre))] (fun _ _ => True) (fun _ _ => 0) (fun _ => stripL c.roms c l) 0 hb hflat hnames hpost (fun k C hk => by rw [e0 k C hk]; exact hok) (fun k C hk => ?_) (fun k C hk v hv => ?_) (by rw [lk_cons, if_pos rfl]) (fun ρ _ hp => hp.cons (p := .lit true) (by simp only [BE.den])) (fun _ _ _ _ => trivial) (fun k C hk ρ _ _ => by rw [e0 k C hk, flat_start hflat]; exact fun p hp => by cases hp)
    · rw [e0 k C hk, hl]
      show (true, codesL l, stripL c.roms c l) = (true, codesR _ l, stripL c.roms c l)
      rw [a, b]
    · obtain ⟨pc, rfl⟩ := d v hv
      intro ρ _ _ _ g hg
      cases hg
  · cases h
theorem post_nil {F : Fns} {c : Ctr} (h : c.post = []) : PostOk F c := fun ρ _ _ => by rw [h]; exact fun p hp => by cases hp
end Sx
/-! Arguments by value, opened. -/
theorem cell_int {P : Program} {w : World} {r : Reach} {base : Nat} {t : TypeId} {k : IntKind} {v : Value} (hu : P.underlying t = some (.int k)) (h : Cell.okWide P w r base t v) : ∃ n, v = .int k n ∧ Sx.kmin k ≤ n ∧ n ≤ Sx.kmax k := by
  simp only [Cell.okWide, Cell.ok, hu] at h
  cases v <;> simp at h
  obtain ⟨rfl, h1, h2⟩ := h
  exact ⟨_, rfl, by rw [Sx.kmin_eq]; exact h1, by rw [Sx.kmax_eq]; exact h2⟩
theorem cell_bool {P : Program} {w : World} {r : Reach} {base : Nat} {t : TypeId} {v : Value} (hu : P.underlying t = some .bool) (h : Cell.okWide P w r base t v) : ∃ b, v = .bool b := by
  simp only [Cell.okWide, Cell.ok, hu] at h
  cases v <;> simp at h
  exact ⟨_, rfl⟩
theorem open_flat {P : Program} {w : World} {r : Reach} {base : Nat} {t : TypeId} {v : Value} {d : TypeDesc} {ts : List TypeId} {n : Nat} (hu : P.underlying t = some d) (hd : d.isRow = true) (hc : P.cellTypes P.depth t = some ts) (hn : P.cellsOf t = n) (hl : ts.length = n) (h : Value.okWide P w r base t v) :
    ∃ cs : List Value, v = .agg cs.toArray ∧ cs.length = n ∧ ∀ (i : Nat) (c : Value) (u : TypeId), cs[i]? = some c → ts[i]? = some u → Cell.okWide P w r base u c := by
  have key : ∃ cs, v = .agg cs ∧ cs.size = P.cellsOf t ∧ Row.okWide P w r base t cs := by
    unfold Value.okWide at h
    rw [hu] at h
    cases d <;> simp [TypeDesc.isRow] at hd <;> exact h
  obtain ⟨cs, rfl, hs, ts', h1, _, h2⟩ := key
  rw [hc] at h1
  cases h1
  refine ⟨cs.toList, by simp, by simp [hs, hn], ?_⟩
  intro i c u hi hu'
  obtain ⟨u', e1, e2⟩ := h2 i c (by simpa using hi)
  have hlt : i < ts.length := (List.getElem?_eq_some_iff.1 hu').1
  rw [Nat.mod_eq_of_lt hlt, hu'] at e1
  cases e1
  exact e2
theorem list1 {l : List Value} (h : l.length = 1) : ∃ x0, l = [x0] := by
  match l, h with
  | [x0], _ => exact ⟨x0, rfl⟩
theorem list2 {l : List Value} (h : l.length = 2) : ∃ x0 x1, l = [x0, x1] := by
  match l, h with
  | [x0, x1], _ => exact ⟨x0, x1, rfl⟩
theorem list3 {l : List Value} (h : l.length = 3) : ∃ x0 x1 x2, l = [x0, x1, x2] := by
  match l, h with
  | [x0, x1, x2], _ => exact ⟨x0, x1, x2, rfl⟩
theorem list4 {l : List Value} (h : l.length = 4) : ∃ x0 x1 x2 x3, l = [x0, x1, x2, x3] := by
  match l, h with
  | [x0, x1, x2, x3], _ => exact ⟨x0, x1, x2, x3, rfl⟩
theorem list5 {l : List Value} (h : l.length = 5) : ∃ x0 x1 x2 x3 x4, l = [x0, x1, x2, x3, x4] := by
  match l, h with
  | [x0, x1, x2, x3, x4], _ => exact ⟨x0, x1, x2, x3, x4, rfl⟩
theorem list6 {l : List Value} (h : l.length = 6) : ∃ x0 x1 x2 x3 x4 x5, l = [x0, x1, x2, x3, x4, x5] := by
  match l, h with
  | [x0, x1, x2, x3, x4, x5], _ => exact ⟨x0, x1, x2, x3, x4, x5, rfl⟩
theorem list7 {l : List Value} (h : l.length = 7) : ∃ x0 x1 x2 x3 x4 x5 x6, l = [x0, x1, x2, x3, x4, x5, x6] := by
  match l, h with
  | [x0, x1, x2, x3, x4, x5, x6], _ => exact ⟨x0, x1, x2, x3, x4, x5, x6, rfl⟩
theorem list8 {l : List Value} (h : l.length = 8) : ∃ x0 x1 x2 x3 x4 x5 x6 x7, l = [x0, x1, x2, x3, x4, x5, x6, x7] := by
  match l, h with
  | [x0, x1, x2, x3, x4, x5, x6, x7], _ => exact ⟨x0, x1, x2, x3, x4, x5, x6, x7, rfl⟩
theorem list9 {l : List Value} (h : l.length = 9) : ∃ x0 x1 x2 x3 x4 x5 x6 x7 x8, l = [x0, x1, x2, x3, x4, x5, x6, x7, x8] := by
  match l, h with
  | [x0, x1, x2, x3, x4, x5, x6, x7, x8], _ => exact ⟨x0, x1, x2, x3, x4, x5, x6, x7, x8, rfl⟩
theorem list10 {l : List Value} (h : l.length = 10) : ∃ x0 x1 x2 x3 x4 x5 x6 x7 x8 x9, l = [x0, x1, x2, x3, x4, x5, x6, x7, x8, x9] := by
  match l, h with
  | [x0, x1, x2, x3, x4, x5, x6, x7, x8, x9], _ => exact ⟨x0, x1, x2, x3, x4, x5, x6, x7, x8, x9, rfl⟩
theorem list11 {l : List Value} (h : l.length = 11) : ∃ x0 x1 x2 x3 x4 x5 x6 x7 x8 x9 x10, l = [x0, x1, x2, x3, x4, x5, x6, x7, x8, x9, x10] := by
  match l, h with
  | [x0, x1, x2, x3, x4, x5, x6, x7, x8, x9, x10], _ => exact ⟨x0, x1, x2, x3, x4, x5, x6, x7, x8, x9, x10, rfl⟩
theorem list12 {l : List Value} (h : l.length = 12) : ∃ x0 x1 x2 x3 x4 x5 x6 x7 x8 x9 x10 x11, l = [x0, x1, x2, x3, x4, x5, x6, x7, x8, x9, x10, x11] := by
  match l, h with
  | [x0, x1, x2, x3, x4, x5, x6, x7, x8, x9, x10, x11], _ => exact ⟨x0, x1, x2, x3, x4, x5, x6, x7, x8, x9, x10, x11, rfl⟩
theorem list13 {l : List Value} (h : l.length = 13) : ∃ x0 x1 x2 x3 x4 x5 x6 x7 x8 x9 x10 x11 x12, l = [x0, x1, x2, x3, x4, x5, x6, x7, x8, x9, x10, x11, x12] := by
  match l, h with
  | [x0, x1, x2, x3, x4, x5, x6, x7, x8, x9, x10, x11, x12], _ => exact ⟨x0, x1, x2, x3, x4, x5, x6, x7, x8, x9, x10, x11, x12, rfl⟩
theorem list14 {l : List Value} (h : l.length = 14) : ∃ x0 x1 x2 x3 x4 x5 x6 x7 x8 x9 x10 x11 x12 x13, l = [x0, x1, x2, x3, x4, x5, x6, x7, x8, x9, x10, x11, x12, x13] := by
  match l, h with
  | [x0, x1, x2, x3, x4, x5, x6, x7, x8, x9, x10, x11, x12, x13], _ => exact ⟨x0, x1, x2, x3, x4, x5, x6, x7, x8, x9, x10, x11, x12, x13, rfl⟩
theorem list15 {l : List Value} (h : l.length = 15) : ∃ x0 x1 x2 x3 x4 x5 x6 x7 x8 x9 x10 x11 x12 x13 x14, l = [x0, x1, x2, x3, x4, x5, x6, x7, x8, x9, x10, x11, x12, x13, x14] := by
  match l, h with
  | [x0, x1, x2, x3, x4, x5, x6, x7, x8, x9, x10, x11, x12, x13, x14], _ => exact ⟨x0, x1, x2, x3, x4, x5, x6, x7, x8, x9, x10, x11, x12, x13, x14, rfl⟩
theorem list16 {l : List Value} (h : l.length = 16) : ∃ x0 x1 x2 x3 x4 x5 x6 x7 x8 x9 x10 x11 x12 x13 x14 x15, l = [x0, x1, x2, x3, x4, x5, x6, x7, x8, x9, x10, x11, x12, x13, x14, x15] := by
  match l, h with
  | [x0, x1, x2, x3, x4, x5, x6, x7, x8, x9, x10, x11, x12, x13, x14, x15], _ => exact ⟨x0, x1, x2, x3, x4, x5, x6, x7, x8, x9, x10, x11, x12, x13, x14, x15, rfl⟩
end Go.Proofs.Ytjgkaimgocnkmab
