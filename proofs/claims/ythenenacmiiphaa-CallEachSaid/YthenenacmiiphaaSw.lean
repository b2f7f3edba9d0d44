/- From a run of the reckoner to a law's row. No condition. -/
import Derived.Test.YthenenacmiiphaaStab
import Derived.Test.YthenenacmiiphaaRows
import Derived.Test.YthenenacmiiphaaChecked
import Derived.ProofKit
import Derived.OpenShut
import Derived.Lib.SmallJoins
import Derived.ChangeMaps5
import Derived.Deep.Slices
import Derived.ChangeArms
set_option linter.unusedSimpArgs false
set_option linter.deprecated false
set_option linter.unusedVariables false
namespace Go.Proofs.Ythenenacmiiphaa
open Go.ChangeShapes Go.WideShapes Go.ChangeAt Go.RowKit Go.Joins

theorem own : ownKnob Try.prog.godebug = none := by kernel_rfl

theorem trodAll_below {H : Type} {enc : TypeId × Value → H} {P : Program} (hl : laidOutB P = true) {W W' : World} (hb : Below W.heap.size W W') :
  ∀ {ts : List TypeId} {vs : List Value} {ds : List (DataW H)} {ps : List MemPlace}, (ts.all fun t => P.readableRec t && decide (t < P.types.size)) = true → DataW.TrodAll enc P W 0 (fun _ => true) true ts vs ds ps → (∀ x ∈ ps, x.block < W.heap.size) →
   DataW.TrodAll enc P W' 0 (fun b => decide (b < W.heap.size)) true ts vs ds ps
 | [], vs, ds, ps, _, h, _ => by
  obtain ⟨rfl, rfl, rfl⟩ := trodAll_nil h
  exact trodAll_mk0
 | t :: ts, vs, ds, ps, hr, h, hlt => by
  obtain ⟨v0, vs0, d0, ds0, p0, q0, rfl, rfl, rfl, h0, r0⟩ := trodAll_cons h
  simp only [List.all_cons, Bool.and_eq_true, decide_eq_true_eq] at hr
  exact trodAll_cons_mk (Below.trod hl hr.1.1 hr.1.2 h0 hb (fun x hx => hlt x (by simp [hx]))) (trodAll_below hl hb hr.2 r0 (fun x hx => hlt x (by simp [hx])))
theorem law_post {H : Type} {enc : TypeId × Value → H} {P : Program} {f : Func} {s : ChangeSpec} {apart fresh handsOn : Bool} {W W' : World} {args : Array Value} {ds : List (DataW H)} {p : List MemPlace} {tb : TypeId}
  (hl : laidOutB P = true) (hr : (f.params.toList.all fun t => P.readableRec t && decide (t < P.types.size)) = true) (hres : f.resultTypes = #[tb]) (htb : P.underlying tb = some .bool) (hsv : s.vars = [])
  (hW : DataW.Whole enc P f.params.toList s.vars apart W args.toList ds [] p) (hA : DataW.TrodAll enc P W 0 (fun _ => true) true f.params.toList args.toList ds p)
  (hs : s.fn H (ds ++ []) = { results := [.lit (.bool true)], args := ds }) (hb : Below W.heap.size W W') : s.post enc P f apart fresh handsOn false W args (.bool true) W' := by
 refine ⟨ds, [], p, [], p, [], hW, ?_, ?_, ?_, World.keptBut_mono (fun x hx => ⟨hx, Or.inr (by simpa using hx)⟩) (hb.frame (· ∈ p)), fun h => by cases h⟩
 ·rw [hs, hres]
  exact trodAll_cons_mk (shut_bool htb _) trodAll_mk0
 ·rw [hs]
  exact trodAll_below hl hb hr hA (fun x hx => hW.lt x hx)
 ·rw [hs, hsv]
  exact rfl
theorem below_of {P : Program} {f : FuncId} {args : Array Value} {w : World} (h : Calls P f args w fun e w' => e = .returned (.bool true) ∧ w.grownBy w' none) : Calls P f args w fun e w' => e = .returned (.bool true) ∧ Below w.heap.size w w' :=
 h.mono fun e w' ⟨he, hg⟩ => ⟨he, ⟨hg.os, hg.tape, hg.output, hg.size, fun k hk => hg.block k hk (by simp)⟩⟩
theorem _root_.Go.Calls.below {P : Program} {f : FuncId} {args : Array Value} {w : World} (h : Calls P f args w fun e w' => e = .returned (.bool true) ∧ w.grownBy w' none) : Calls P f args w fun e w' => e = .returned (.bool true) ∧ Below w.heap.size w w' := below_of h
namespace Sx
structure Num where
 n : Nat
 k : IntKind
 v : Int
def numAt : List Num → IntKind → Nat → Int
 | [], _, _ => 0
 | x :: l, k, n => if keq x.k k then (if Nat.beq x.n n then x.v else numAt l k n) else numAt l k n
structure RSl where
 a : Option Addr
 len : Nat
 cap : Nat
 ks : List CK
def RSl.at (r : RSl) : Addr := r.a.getD ⟨0, 0, none⟩
def RSl.none : RSl := ⟨.none, 0, 0, []⟩
def valO : Option Value → Value
 | some v => v
 | .none => .bool false
def rowOf (w : World) (r : RSl) : LV := (List.range r.len).map fun i => (List.range r.ks.length).map fun c => valO (w.cell? ((r.at.add (i * r.ks.length)).add c))
def envOf (F : Fns) (w : World) (rs : Nat → RSl) : Env := { F := F, rl := fun r => rowOf w (rs r), ra := fun r => (rs r).a, rb := fun r => (rs r).at.block, ro := fun r => (rs r).at.off, rc := fun r => (rs r).cap, re := fun r => (rs r).ks.length }
def lAt : List (Nat × LV) → Nat → LV
 | [], _ => []
 | (m, x) :: l, n => if Nat.beq m n then x else lAt l n
def rho (l : List Num) (bs : List Bool) (ls : List (Nat × LV)) (z : Env) : Rho := { i := numAt l, b := fun n => bs.getD n false, l := lAt ls, v := fun _ => .bool false, a := fun _ => 0, z := z }
theorem k0_lo (k : IntKind) : kmin k ≤ (0 : Int) := by cases k <;> decide
theorem k0_hi (k : IntKind) : (0 : Int) ≤ kmax k := by cases k <;> decide
def NumsOk : List Num → Prop
 | [] => True
 | x :: l => (kmin x.k ≤ x.v ∧ x.v ≤ kmax x.k) ∧ NumsOk l
theorem rho_ok' : ∀ {l : List Num}, NumsOk l → ∀ k n, kmin k ≤ numAt l k n ∧ numAt l k n ≤ kmax k
 | [], _, k, n => by show kmin k ≤ (0 : Int) ∧ (0 : Int) ≤ kmax k; cases k <;> decide
 | x :: l, h, k, n => by
  simp only [numAt]
  split
  ·rename_i e
   rw [← (keq_iff _ _).1 e]
   split
   ·exact h.1
   ·exact rho_ok' h.2 _ _
  ·exact rho_ok' h.2 _ _
def LsOk : List (Nat × LV) → Prop
 | [] => True
 | (n, x) :: l => (Typed byteK x ∧ (x.length : Int) ≤ 9223372036854775807) ∧ LsOk l
theorem ls_ok : ∀ {l : List (Nat × LV)}, LsOk l → ∀ n, Typed byteK (lAt l n) ∧ ((lAt l n).length : Int) ≤ 9223372036854775807
 | [], _, n => ⟨.nil _, by simp [lAt]⟩
 | (m, x) :: l, h, n => by
  simp only [lAt]
  split
  ·exact h.1
  ·exact ls_ok h.2 n
def OddOk (F : Fns) : Prop := ∀ n a, oddN n = true → Typed byteK (F.l n a)
theorem rho_ok {l : List Num} {bs : List Bool} {ls : List (Nat × LV)} {F : Fns} {w : World} {rs : Nat → RSl} (h : NumsOk l) (h2 : LsOk ls) (hF : OddOk F) (hr : ∀ r, (rs r).len ≤ maxLen) : (rho l bs ls (envOf F w rs)).Ok :=
 ⟨fun k n => (rho_ok' h k n).1, fun k n => (rho_ok' h k n).2, fun n => (ls_ok h2 n).2, fun n _ => (ls_ok h2 n).1, fun r => by
  have := hr r
  simp only [maxLen] at this
  show (((rowOf w (rs r)).length : Nat) : Int) ≤ 9223372036854775807
  simp [rowOf]; omega, hF⟩
theorem rho_gd {l : List Num} {bs : List Bool} {ls : List (Nat × LV)} {F : Fns} {w : World} {rs : Nat → RSl} (h : NumsOk l) (h2 : LsOk ls) (hF : OddOk F) (hr : ∀ r, (rs r).len ≤ maxLen) : Gd F (rho l bs ls (envOf F w rs)) := ⟨rho_ok h h2 hF hr, rfl⟩
noncomputable def TM (F : Fns) (roms : Roms) (cs : List Ctr) (ms : List Mtr) : Tab := tab ⟨F, [], roms, cs, ms⟩
noncomputable def T (F : Fns) (roms : Roms) (cs : List Ctr) : Tab := TM F roms cs []
noncomputable def startM (f : FuncId) (pat : List SV) (hp : SHeap) (nx : Nat) (pc : List BE) : Cfg := match fns.get f with
 | some F => (match F.body with
  | some c => { top := frameOf f F c pat, rest := [], heap := hp, next := nx, pc := pc }
  | none => ⟨⟨0, [], [], [], false, none⟩, [], [], 0, []⟩)
 | none => ⟨⟨0, [], [], [], false, none⟩, [], [], 0, []⟩
noncomputable def startF (f : FuncId) (pat : List SV) (pc : List BE) : Cfg := match fns.get f with
 | some F => (match F.body with
  | some c => { top := frameOf f F c pat, rest := [], heap := [], next := 0, pc := pc }
  | none => ⟨⟨0, [], [], [], false, none⟩, [], [], 0, []⟩)
 | none => ⟨⟨0, [], [], [], false, none⟩, [], [], 0, []⟩
def hasBody (f : FuncId) : Prop := ∃ F c, fns.get f = some F ∧ F.body = some c
noncomputable def bodyB (f : FuncId) : Bool := match fns.get f with
 | some F => (match F.body with
  | some _ => true
  | none => false)
 | none => false
theorem bodyB_ok {f : FuncId} (h : bodyB f = true) : hasBody f := by
 unfold bodyB at h
 split at h
 ·rename_i F hF
  split at h
  ·rename_i c hc; exact ⟨F, c, hF, hc⟩
  ·cases h
 ·cases h
structure Told (F : Fns) (c : Ctr) : Prop where
 ok : CtrOk Try.prog F c
 post : PostOk F c
structure MTold (F : Fns) (c : Mtr) : Prop where
 ok : MtrOk Try.prog F c
 post : MPostOk F c
theorem mems_nil {F : Fns} : ∀ d ∈ ([] : List Mtr), MTold F d := fun d h => by cases h
def noLean (l : List BE) : Bool := match leanOf l with
 | [] => true
 | _ => false
def ctrFlat (c : Ctr) : Bool := if noLean c.pre then (if c.res.flat2 then (if flatH c.heap then (if freeL c.post then freeL c.pre else false) else false) else false) else false
def namesB (N : Nat) : List Nat → Bool
 | [] => true
 | n :: l => if Nat.blt n N then namesB N l else false
def lowH (N : Nat) : SHeap → Bool
 | [] => true
 | (n, o) :: h => if Nat.blt n N then (if namesB N o.names then lowH N h else false) else false
def ctrNames (c : Ctr) : Bool := if lowH c.cnt c.heap then (if namesB c.cnt c.res.names then (match SV.namesL c.pat with
 | [] => true
 | _ => false) else false) else false
theorem namesB_ok {N : Nat} : ∀ {l : List Nat}, namesB N l = true → ∀ n ∈ l, n < N
 | [], _, n, h => by cases h
 | m :: l, h, n, hn => by
  obtain ⟨h1, h2⟩ := ifb h
  rcases List.mem_cons.1 hn with rfl | hn
  ·simpa [Nat.blt_eq] using h1
  ·exact namesB_ok h2 n hn
theorem lowH_ok {N : Nat} : ∀ {h : SHeap}, lowH N h = true → HNames N h ∧ ∀ p ∈ h, p.1 < N
 | [], _ => ⟨(fun n o hl => by rw [lk_nil] at hl; cases hl), (fun p hp => by cases hp)⟩
 | (m, q) :: t, h => by
  obtain ⟨h1, h2⟩ := ifb h
  obtain ⟨h3, h4⟩ := ifb h2
  obtain ⟨a, b⟩ := lowH_ok h4
  have hm : m < N := by simpa [Nat.blt_eq] using h1
  refine ⟨fun n o hl => ?_, fun p hp => ?_⟩
  ·rw [lk_cons] at hl
   split at hl
   ·rename_i e; subst e; cases hl; exact ⟨hm, namesB_ok h3⟩
   ·exact a n o hl
  ·rcases List.mem_cons.1 hp with rfl | hp
   ·exact hm
   ·exact b p hp
theorem told_ofM {F : Fns} {c : Ctr} {cs : List Ctr} {ms' : List Mtr} (hcs : ∀ d ∈ cs, Told F d) (hms : ∀ d ∈ ms', MTold F d) {sel : Sel} (n : Nat) (tm : List (Nat × Cfg)) (inv : Nat → Lt → Prop) (ms : Nat → Lt → Nat) (vw : Nat → List VW) (k0 : Nat) {pc0 : List BE} (hb : bodyB c.f = true) (hflat : ctrFlat c = true) (hnames : ctrNames c = true) (hpost : PostOk F c)
  (hok : ∀ k C, lk tm k = some C → cfgOk C = true) (hseg : ∀ k C, lk tm k = some C → segL c.roms c (seg (TM F c.roms cs ms') sel n tm C) = (true, codesR tm (views (seg (TM F c.roms cs ms') sel n tm C)), vw k)) (hvc : ∀ k C, lk tm k = some C → ∀ v ∈ vw k, VC (TM F c.roms cs ms') inv ms k C v)
  (h0 : lk tm k0 = some (startF c.f c.pat pc0)) (hpre : ∀ ρ : Rho, Gd F ρ → Holds ρ c.pre → Holds ρ pc0) (hi : ∀ ρ : Rho, Gd F ρ → RTyped c.roms ρ → Holds ρ c.pre → inv k0 ρ.lt) (hlean : ∀ k C, lk tm k = some C → ∀ ρ, Known (TM F c.roms cs ms') C ρ → inv k ρ.lt → Holds ρ (leanOf C.pc)) : Told F c := by
 refine ⟨?_, hpost⟩
 obtain ⟨Fn, code, hF, hc⟩ := bodyB_ok hb
 obtain ⟨_, hflat⟩ := ifb hflat
 obtain ⟨f1, f2⟩ := ifb hflat
 obtain ⟨f3, f4⟩ := ifb f2
 obtain ⟨f5, f6⟩ := ifb f4
 obtain ⟨n1, n2⟩ := ifb hnames
 obtain ⟨n3, n4⟩ := ifb n2
 obtain ⟨n5, n6⟩ := lowH_ok n1
 have nl : SV.namesL c.pat = [] := by
  split at n4
  ·assumption
  ·cases n4
 have hT : Tab.Ok Try.prog (TM F c.roms cs ms') := tab_ok' _ ⟨fun d hd => (hcs d hd).post, fun d hd => (hms d hd).post⟩
 have hst : startF c.f c.pat pc0 = { top := frameOf c.f Fn code c.pat, rest := [], heap := [], next := 0, pc := pc0 } := by
  unfold startF
  rw [hF]
  simp only [hc]
 exact ctr_of (sel := sel) hT n c tm inv ms vw k0 (F := Fn) (code := code) hF hc rfl ⟨f1, f3, f5, f6⟩ ⟨n5, namesB_ok n3, nl, n6⟩ hok hseg hvc hlean (by rw [h0, hst]) hpre hi
  rfl (fun d hd => (hcs d hd).ok) (fun d hd => (hms d hd).ok)
theorem told_of {F : Fns} {c : Ctr} {cs : List Ctr} (hcs : ∀ d ∈ cs, Told F d) {sel : Sel} (n : Nat) (tm : List (Nat × Cfg)) (inv : Nat → Lt → Prop) (ms : Nat → Lt → Nat) (vw : Nat → List VW) (k0 : Nat) {pc0 : List BE} (hb : bodyB c.f = true) (hflat : ctrFlat c = true) (hnames : ctrNames c = true) (hpost : PostOk F c)
  (hok : ∀ k C, lk tm k = some C → cfgOk C = true) (hseg : ∀ k C, lk tm k = some C → segL c.roms c (seg (T F c.roms cs) sel n tm C) = (true, codesR tm (views (seg (T F c.roms cs) sel n tm C)), vw k)) (hvc : ∀ k C, lk tm k = some C → ∀ v ∈ vw k, VC (T F c.roms cs) inv ms k C v)
  (h0 : lk tm k0 = some (startF c.f c.pat pc0)) (hpre : ∀ ρ : Rho, Gd F ρ → Holds ρ c.pre → Holds ρ pc0) (hi : ∀ ρ : Rho, Gd F ρ → RTyped c.roms ρ → Holds ρ c.pre → inv k0 ρ.lt) (hlean : ∀ k C, lk tm k = some C → ∀ ρ, Known (T F c.roms cs) C ρ → inv k ρ.lt → Holds ρ (leanOf C.pc)) : Told F c := told_ofM (ms' := []) hcs mems_nil n tm inv ms vw k0 hb hflat hnames hpost hok hseg hvc h0 hpre hi hlean
theorem noLean_ok {l : List BE} (h : noLean l = true) : leanOf l = [] := by
 unfold noLean at h
 split at h
 ·assumption
 ·cases h
theorem flat_start {c : Ctr} (h : ctrFlat c = true) : leanOf (startF c.f c.pat (.lit true :: c.pre)).pc = [] := by
 have e := noLean_ok (ifb h).1
 unfold startF
 split
 ·split
  ·simpa [leanOf, isMark] using e
  ·rfl
 ·rfl
noncomputable def doneNil : View → VW → Bool
 | .done _, .done _ (some []) => true
 | _, _ => false
noncomputable def allDone (lg : LG) : List View → Bool
 | [] => true
 | v :: l => if doneNil v (stripV lg v) then allDone lg l else false
noncomputable def autoOkM (F : Fns) (c : Ctr) (cs : List Ctr) (ms : List Mtr) (n : Nat) : Bool :=
 match seg (TM F c.roms cs ms) [] n [(0, startF c.f c.pat (.lit true :: c.pre))] (startF c.f c.pat (.lit true :: c.pre)) with
 | .ok l => allDone (leafG c.roms c) l
 | .fail _ _ => false
noncomputable def autoOk (F : Fns) (c : Ctr) (cs : List Ctr) (n : Nat) : Bool := autoOkM F c cs [] n
theorem allDone_ok {lg : LG} {tm : List (Nat × Cfg)} : ∀ {l : List View}, allDone lg l = true → codesL l = [] ∧ codesR tm l = [] ∧ ∀ v ∈ stripL lg l, ∃ pc, v = .done pc (some [])
 | [], _ => ⟨rfl, rfl, (fun v h => by cases h)⟩
 | v :: l, h => by
  obtain ⟨h1, h2⟩ := ifb h
  obtain ⟨a, b, d⟩ := allDone_ok (tm := tm) h2
  unfold doneNil at h1
  split at h1
  ·rename_i lf pc hq
   refine ⟨a, b, fun v hv => ?_⟩
   rcases List.mem_cons.1 hv with rfl | hv
   ·exact ⟨pc, hq⟩
   ·exact d v hv
  ·cases h1
theorem told_autoM {F : Fns} {c : Ctr} {cs : List Ctr} {ms' : List Mtr} (hcs : ∀ d ∈ cs, Told F d) (hms : ∀ d ∈ ms', MTold F d) (n : Nat) (hb : bodyB c.f = true) (hflat : ctrFlat c = true) (hnames : ctrNames c = true) (hpost : PostOk F c) (hok : cfgOk (startF c.f c.pat (.lit true :: c.pre)) = true) (h : autoOkM F c cs ms' n = true) : Told F c := by
 unfold autoOkM at h
 split at h
 ·rename_i l hl
  obtain ⟨a, b, d⟩ := allDone_ok (tm := [(0, startF c.f c.pat (.lit true :: c.pre))]) h
  have e0 : ∀ k C, lk [(0, startF c.f c.pat (.lit true :: c.pre))] k = some C → C = startF c.f c.pat (.lit true :: c.pre) := by
   intro k C hk
   rw [lk_cons, lk_nil] at hk
   split at hk
   ·cases hk; rfl
   ·cases hk
  refine told_ofM hcs hms (sel := []) n [(0, startF c.f c.pat (.lit true :: c.pre))] (fun _ _ => True) (fun _ _ => 0) (fun _ => stripL (leafG c.roms c) l) 0 hb hflat hnames hpost (fun k C hk => by rw [e0 k C hk]; exact hok) (fun k C hk => ?_) (fun k C hk v hv => ?_) (by rw [lk_cons, if_pos rfl]) (fun ρ _ hp => hp.cons (p := .lit true) (by simp only [BE.den])) (fun _ _ _ _ => trivial) (fun k C hk ρ _ _ => by rw [e0 k C hk, flat_start hflat]; exact fun p hp => by cases hp)
  ·rw [e0 k C hk, hl]
   show (true, codesL l, stripL (leafG c.roms c) l) = (true, codesR _ l, stripL (leafG c.roms c) l)
   rw [a, b]
  ·obtain ⟨pc, rfl⟩ := d v hv
   intro ρ _ _ _ g hg
   cases hg
 ·cases h
theorem told_auto {F : Fns} {c : Ctr} {cs : List Ctr} (hcs : ∀ d ∈ cs, Told F d) (n : Nat) (hb : bodyB c.f = true) (hflat : ctrFlat c = true) (hnames : ctrNames c = true) (hpost : PostOk F c) (hok : cfgOk (startF c.f c.pat (.lit true :: c.pre)) = true) (h : autoOk F c cs n = true) : Told F c := told_autoM (ms' := []) hcs mems_nil n hb hflat hnames hpost hok h
theorem post_nil {F : Fns} {c : Ctr} (h : c.post = []) : PostOk F c := fun ρ _ _ => by rw [h]; exact fun p hp => by cases hp
theorem mpost_nil {F : Fns} {c : Mtr} (h : c.post = []) : MPostOk F c := fun ρ _ _ => by rw [h]; exact fun p hp => by cases hp
def highT : List (Nat × Cfg) → Bool
 | [] => true
 | (_, C) :: l => if Nat.ble 1001000 C.next then highT l else false
theorem highT_ok : ∀ {tm : List (Nat × Cfg)}, highT tm = true → ∀ k C, lk tm k = some C → 1001000 ≤ C.next
 | [], _, k, C, hl => by rw [lk_nil] at hl; cases hl
 | (m, D) :: l, h, k, C, hl => by
  obtain ⟨h1, h2⟩ := ifb h
  rw [lk_cons] at hl
  split at hl
  ·cases hl; exact Nat.le_of_ble_eq_true h1
  ·exact highT_ok h2 k C hl
theorem mtold_of {F : Fns} {c : Mtr} {cs : List Ctr} {ms' : List Mtr} (hcs : ∀ d ∈ cs, Told F d) (hms : ∀ d ∈ ms', MTold F d) {sel : Sel} (n : Nat) (tm : List (Nat × Cfg)) (inv : Nat → Lt → Prop) (ms : Nat → Lt → Nat) (vw : Nat → List VW) (k0 : Nat) {pc0 : List BE} (hb : bodyB c.f = true) (hflat : mtrFlat c = true) (hnames : mtrNames c = true) (hN : highT tm = true) (hpost : MPostOk F c)
  (hok : ∀ k C, lk tm k = some C → cfgOk C = true) (hseg : ∀ k C, lk tm k = some C → segM c.roms c (seg (TM F c.roms cs ms') sel n tm C) = (true, codesR tm (views (seg (TM F c.roms cs ms') sel n tm C)), vw k)) (hvc : ∀ k C, lk tm k = some C → ∀ v ∈ vw k, VC (TM F c.roms cs ms') inv ms k C v)
  (h0 : lk tm k0 = some (startM c.f c.pat c.hp c.cnt0 pc0)) (hpre : ∀ ρ : Rho, Gd F ρ → Holds ρ c.pre → Holds ρ pc0) (hi : ∀ ρ : Rho, Gd F ρ → RTyped c.roms ρ → RowsF c.hp ρ → Holds ρ c.pre → inv k0 ρ.lt) (hlean : ∀ k C, lk tm k = some C → ∀ ρ, Known (TM F c.roms cs ms') C ρ → inv k ρ.lt → Holds ρ (leanOf C.pc)) : MTold F c := by
 refine ⟨?_, hpost⟩
 obtain ⟨Fn, code, hF, hc⟩ := bodyB_ok hb
 have hT : Tab.Ok Try.prog (TM F c.roms cs ms') := tab_ok' _ ⟨fun d hd => (hcs d hd).post, fun d hd => (hms d hd).post⟩
 have hst : startM c.f c.pat c.hp c.cnt0 pc0 = { top := frameOf c.f Fn code c.pat, rest := [], heap := c.hp, next := c.cnt0, pc := pc0 } := by
  unfold startM
  rw [hF]
  simp only [hc]
 exact mtr_of (sel := sel) hT n c tm inv ms vw k0 (F := Fn) (code := code) hF hc rfl hflat hnames (highT_ok hN) hok hseg hvc hlean (by rw [h0, hst]) hpre hi
  rfl (fun d hd => (hcs d hd).ok) (fun d hd => (hms d hd).ok)
end Sx
theorem cell_int {P : Program} {w : World} {r : Reach} {base : Nat} {t : TypeId} {k : IntKind} {v : Value} (hu : P.underlying t = some (.int k)) (h : Cell.okWide P w r base t v) : ∃ n, v = .int k n ∧ Sx.kmin k ≤ n ∧ n ≤ Sx.kmax k := by
 simp only [Cell.okWide, Cell.ok, hu] at h
 cases v <;> simp at h
 obtain ⟨rfl, h1, h2⟩ := h
 exact ⟨_, rfl, by rw [Sx.kmin_eq]; exact h1, by rw [Sx.kmax_eq]; exact h2⟩
theorem cell_bool {P : Program} {w : World} {r : Reach} {base : Nat} {t : TypeId} {v : Value} (hu : P.underlying t = some .bool) (h : Cell.okWide P w r base t v) : ∃ b, v = .bool b := by
 simp only [Cell.okWide, Cell.ok, hu] at h
 cases v <;> simp at h
 exact ⟨_, rfl⟩
theorem open_flat {P : Program} {w : World} {r : Reach} {base : Nat} {t : TypeId} {v : Value} {d : TypeDesc} {ts : List TypeId} {n : Nat} (hu : P.underlying t = some d) (hd : d.isRow = true) (hc : P.cellTypes P.depth t = some ts) (hn : P.cellsOf t = n) (hl : ts.length = n) (h : Value.okWide P w r base t v) :
  ∃ cs : List Value, v = .agg cs.toArray ∧ cs.length = n ∧ ∀ (i : Nat) (c : Value) (u : TypeId), cs[i]? = some c → ts[i]? = some u → Cell.okWide P w r base u c := by
 have key : ∃ cs, v = .agg cs ∧ cs.size = P.cellsOf t ∧ Row.okWide P w r base t cs := by
  unfold Value.okWide at h
  rw [hu] at h
  cases d <;> simp [TypeDesc.isRow] at hd <;> exact h
 obtain ⟨cs, rfl, hs, ts', h1, _, h2⟩ := key
 rw [hc] at h1
 cases h1
 refine ⟨cs.toList, by simp, by simp [hs, hn], ?_⟩
 intro i c u hi hu'
 obtain ⟨u', e1, e2⟩ := h2 i c (by simpa using hi)
 have hlt : i < ts.length := (List.getElem?_eq_some_iff.1 hu').1
 rw [Nat.mod_eq_of_lt hlt, hu'] at e1
 cases e1
 exact e2
theorem list1 {l : List Value} (h : l.length = 1) : ∃ x0, l = [x0] := by
 match l, h with
 | [x0], _ => exact ⟨x0, rfl⟩
theorem list2 {l : List Value} (h : l.length = 2) : ∃ x0 x1, l = [x0, x1] := by
 match l, h with
 | [x0, x1], _ => exact ⟨x0, x1, rfl⟩
theorem list3 {l : List Value} (h : l.length = 3) : ∃ x0 x1 x2, l = [x0, x1, x2] := by
 match l, h with
 | [x0, x1, x2], _ => exact ⟨x0, x1, x2, rfl⟩
theorem list4 {l : List Value} (h : l.length = 4) : ∃ x0 x1 x2 x3, l = [x0, x1, x2, x3] := by
 match l, h with
 | [x0, x1, x2, x3], _ => exact ⟨x0, x1, x2, x3, rfl⟩
theorem list5 {l : List Value} (h : l.length = 5) : ∃ x0 x1 x2 x3 x4, l = [x0, x1, x2, x3, x4] := by
 match l, h with
 | [x0, x1, x2, x3, x4], _ => exact ⟨x0, x1, x2, x3, x4, rfl⟩
theorem list6 {l : List Value} (h : l.length = 6) : ∃ x0 x1 x2 x3 x4 x5, l = [x0, x1, x2, x3, x4, x5] := by
 match l, h with
 | [x0, x1, x2, x3, x4, x5], _ => exact ⟨x0, x1, x2, x3, x4, x5, rfl⟩
theorem list7 {l : List Value} (h : l.length = 7) : ∃ x0 x1 x2 x3 x4 x5 x6, l = [x0, x1, x2, x3, x4, x5, x6] := by
 match l, h with
 | [x0, x1, x2, x3, x4, x5, x6], _ => exact ⟨x0, x1, x2, x3, x4, x5, x6, rfl⟩
theorem list8 {l : List Value} (h : l.length = 8) : ∃ x0 x1 x2 x3 x4 x5 x6 x7, l = [x0, x1, x2, x3, x4, x5, x6, x7] := by
 match l, h with
 | [x0, x1, x2, x3, x4, x5, x6, x7], _ => exact ⟨x0, x1, x2, x3, x4, x5, x6, x7, rfl⟩
theorem list9 {l : List Value} (h : l.length = 9) : ∃ x0 x1 x2 x3 x4 x5 x6 x7 x8, l = [x0, x1, x2, x3, x4, x5, x6, x7, x8] := by
 match l, h with
 | [x0, x1, x2, x3, x4, x5, x6, x7, x8], _ => exact ⟨x0, x1, x2, x3, x4, x5, x6, x7, x8, rfl⟩
theorem list10 {l : List Value} (h : l.length = 10) : ∃ x0 x1 x2 x3 x4 x5 x6 x7 x8 x9, l = [x0, x1, x2, x3, x4, x5, x6, x7, x8, x9] := by
 match l, h with
 | [x0, x1, x2, x3, x4, x5, x6, x7, x8, x9], _ => exact ⟨x0, x1, x2, x3, x4, x5, x6, x7, x8, x9, rfl⟩
theorem list11 {l : List Value} (h : l.length = 11) : ∃ x0 x1 x2 x3 x4 x5 x6 x7 x8 x9 x10, l = [x0, x1, x2, x3, x4, x5, x6, x7, x8, x9, x10] := by
 match l, h with
 | [x0, x1, x2, x3, x4, x5, x6, x7, x8, x9, x10], _ => exact ⟨x0, x1, x2, x3, x4, x5, x6, x7, x8, x9, x10, rfl⟩
theorem list12 {l : List Value} (h : l.length = 12) : ∃ x0 x1 x2 x3 x4 x5 x6 x7 x8 x9 x10 x11, l = [x0, x1, x2, x3, x4, x5, x6, x7, x8, x9, x10, x11] := by
 match l, h with
 | [x0, x1, x2, x3, x4, x5, x6, x7, x8, x9, x10, x11], _ => exact ⟨x0, x1, x2, x3, x4, x5, x6, x7, x8, x9, x10, x11, rfl⟩
theorem list13 {l : List Value} (h : l.length = 13) : ∃ x0 x1 x2 x3 x4 x5 x6 x7 x8 x9 x10 x11 x12, l = [x0, x1, x2, x3, x4, x5, x6, x7, x8, x9, x10, x11, x12] := by
 match l, h with
 | [x0, x1, x2, x3, x4, x5, x6, x7, x8, x9, x10, x11, x12], _ => exact ⟨x0, x1, x2, x3, x4, x5, x6, x7, x8, x9, x10, x11, x12, rfl⟩
theorem list14 {l : List Value} (h : l.length = 14) : ∃ x0 x1 x2 x3 x4 x5 x6 x7 x8 x9 x10 x11 x12 x13, l = [x0, x1, x2, x3, x4, x5, x6, x7, x8, x9, x10, x11, x12, x13] := by
 match l, h with
 | [x0, x1, x2, x3, x4, x5, x6, x7, x8, x9, x10, x11, x12, x13], _ => exact ⟨x0, x1, x2, x3, x4, x5, x6, x7, x8, x9, x10, x11, x12, x13, rfl⟩
theorem list15 {l : List Value} (h : l.length = 15) : ∃ x0 x1 x2 x3 x4 x5 x6 x7 x8 x9 x10 x11 x12 x13 x14, l = [x0, x1, x2, x3, x4, x5, x6, x7, x8, x9, x10, x11, x12, x13, x14] := by
 match l, h with
 | [x0, x1, x2, x3, x4, x5, x6, x7, x8, x9, x10, x11, x12, x13, x14], _ => exact ⟨x0, x1, x2, x3, x4, x5, x6, x7, x8, x9, x10, x11, x12, x13, x14, rfl⟩
theorem list16 {l : List Value} (h : l.length = 16) : ∃ x0 x1 x2 x3 x4 x5 x6 x7 x8 x9 x10 x11 x12 x13 x14 x15, l = [x0, x1, x2, x3, x4, x5, x6, x7, x8, x9, x10, x11, x12, x13, x14, x15] := by
 match l, h with
 | [x0, x1, x2, x3, x4, x5, x6, x7, x8, x9, x10, x11, x12, x13, x14, x15], _ => exact ⟨x0, x1, x2, x3, x4, x5, x6, x7, x8, x9, x10, x11, x12, x13, x14, x15, rfl⟩
end Go.Proofs.Ythenenacmiiphaa
namespace Go.Proofs.Ythenenacmiiphaa
open Go
namespace Sx
def KV : CK → Value → Prop
 | .int k, v => ∃ n, v = .int k n ∧ kmin k ≤ n ∧ n ≤ kmax k
 | .bool, v => ∃ b, v = .bool b
 | .str, v => ∃ s, v = .string s
 | _, _ => False
def KVs (ks : List CK) (cs : List Value) : Prop := cs.length = ks.length ∧ ∀ (i : Nat) (k : CK) (v : Value), ks[i]? = some k → cs[i]? = some v → KV k v
def flatFs (P : Program) (chk : TypeId → List CK → Bool) : List Field → Nat → List CK → Bool
 | [], _, ks => (match ks with
  | [] => true
  | _ => false)
 | f :: fs, off, ks =>
  if Nat.beq f.offset off then (if Nat.ble (P.cellsOf f.type) ks.length then (if chk f.type (ks.take (P.cellsOf f.type)) then flatFs P chk fs (off + P.cellsOf f.type) (ks.drop (P.cellsOf f.type)) else false) else false) else false
def flatChk (P : Program) : Nat → TypeId → List CK → Bool
 | 0, _, _ => false
 | d + 1, t, ks =>
  match P.underlying t with
  | some (.int k) => isOneK (.int k) ks
  | some .bool => isOneK .bool ks
  | some .string => (match ks with
   | [.str] => true
   | _ => false)
  | some (.struct fs) => if Nat.beq ks.length (P.cellsOf t) then flatFs P (flatChk P d) fs.toList 0 ks else false
  | _ => false
section
variable {H : Type} {enc : TypeId × Value → H} {P : Program} {w : World} {base : Nat} {spare : Nat → Bool} {held : Bool}
theorem wf_rng {k : IntKind} {n : Int} (h : (Lit.int k n).wf = true) : kmin k ≤ n ∧ n ≤ kmax k := by
 rw [kmin_eq, kmax_eq]
 simpa [Lit.wf] using h
theorem flat_ok : ∀ (d : Nat) (t : TypeId) (ks : List CK), flatChk P d t ks = true → ∀ (fuel : Nat) (cs : List Value) (x : DataW H × List MemPlace), DataW.trod enc P w base spare held fuel t cs = some x → KVs ks cs := by
  intro d
  induction d with
  | zero => intro t ks h; simp [flatChk] at h
  | succ d ih =>
    intro t ks h fuel cs x hx
    simp only [flatChk] at h
    split at h
    · rename_i k hu
      obtain ⟨n, rfl, _, hwf⟩ := DataW.trod_int hu hx
      rw [isOneK_ok h]
      refine ⟨rfl, fun i k' v hi hv => ?_⟩
      cases i with
      | zero => simp at hi hv; subst hi; subst hv; exact ⟨n, rfl, wf_rng hwf⟩
      | succ i => simp at hi
    · rename_i hu
      obtain ⟨b, rfl, _⟩ := DataW.trod_bool hu hx
      rw [isOneK_ok h]
      refine ⟨rfl, fun i k' v hi hv => ?_⟩
      cases i with
      | zero => simp at hi hv; subst hi; subst hv; exact ⟨b, rfl⟩
      | succ i => simp at hi
    · rename_i hu
      obtain ⟨s, rfl, _, _⟩ := DataW.trod_string hu hx
      split at h
      · refine ⟨rfl, fun i k' v hi hv => ?_⟩
        cases i with
        | zero => simp at hi hv; subst hi; subst hv; exact ⟨s, rfl⟩
        | succ i => simp at hi
      · cases h
    · rename_i fs hu
      split at h
      · rename_i hl
        have hl' := Nat.eq_of_beq_eq_true hl
        obtain ⟨xs, n, _, _, hlen, hxl, hf⟩ := DataW.trod_struct hu hx
        refine ⟨by rw [hlen, hl'], ?_⟩
        have key : ∀ (l : List Field) (off j : Nat) (ks' : List CK), flatFs P (flatChk P d) l off ks' = true → l = fs.toList.drop j → off + ks'.length ≤ cs.length →
            ∀ (i : Nat) (k : CK) (v : Value), ks'[i]? = some k → cs[off + i]? = some v → KV k v := by
          intro l
          induction l with
          | nil =>
            intro off j ks' hk _ _ i k v hi _
            simp only [flatFs] at hk
            split at hk
            · simp at hi
            · cases hk
          | cons f l ihl =>
            intro off j ks' hk hd hle i k v hi hv
            simp only [flatFs] at hk
            split at hk
            · rename_i ho
              have ho' := Nat.eq_of_beq_eq_true ho
              split at hk
              · rename_i hc
                have hc' := Nat.le_of_ble_eq_true hc
                split at hk
                · rename_i hchk
                  obtain ⟨q1, q2⟩ := getElem?_drop0 hd
                  have hfj : fs[j]? = some f := by rw [← Array.getElem?_toList]; exact q1
                  have hj : j < fs.size := (Array.getElem?_eq_some_iff.1 hfj).1
                  have hx1 := hf j f hfj
                  rw [List.getElem?_eq_getElem (by omega)] at hx1
                  by_cases hi2 : i < P.cellsOf f.type
                  · obtain ⟨k1, k2⟩ := ih f.type _ hchk n _ _ hx1
                    refine k2 i k v ?_ ?_
                    · rw [List.getElem?_take, if_pos hi2]; exact hi
                    · rw [List.getElem?_take, if_pos hi2, List.getElem?_drop, ho']; exact hv
                  · refine ihl (off + P.cellsOf f.type) (j + 1) _ hk q2 (by simp; omega) (i - P.cellsOf f.type) k v ?_ ?_
                    · rw [List.getElem?_drop]
                      rw [show P.cellsOf f.type + (i - P.cellsOf f.type) = i by omega]; exact hi
                    · rw [show off + P.cellsOf f.type + (i - P.cellsOf f.type) = off + i by omega]; exact hv
                · cases hk
              · cases hk
            · cases hk
        intro i k v hi hv
        exact key fs.toList 0 0 ks h (by simp) (by omega) i k v hi (by simpa using hv)
      · cases h
    · cases h
def RGood (w : World) (r : RSl) : Prop := r.len ≤ r.cap ∧ r.cap ≤ maxLen ∧ (0 < r.len → r.a.isSome = true) ∧ (∀ (i c : Nat) (k : CK), i < r.len → r.ks[c]? = some k → ∃ v, w.cell? ((r.at.add (i * r.ks.length)).add c) = some v ∧ KV k v)
theorem slice_good {t e : TypeId} {v : Value} {dd : DataW H} {ps : List MemPlace} {ks : List CK} (ht : P.underlying t = some (.slice e)) (hk : flatChk P 6 e ks = true) (hc : P.cellsOf e = ks.length) (hv : ∃ a l c, v = .slice a l c) (h : DataW.Trod enc P w base spare held t v dd ps) :
  ∃ a len cap, v = .slice a len cap ∧ RGood w ⟨a, len, cap, ks⟩ := by
 obtain ⟨a0, l0, c0, rfl⟩ := hv
 obtain ⟨fuel, hx⟩ := h
 rcases Go.Deep.open_slice ht hx with ⟨h0, _⟩ | ⟨a, len, cap, m, n, D, Pl, h0, hb, hl, hm, hmm, _, hel⟩
 ·simp [Value.cells] at h0
  obtain ⟨rfl, rfl, rfl⟩ := h0
  refine ⟨none, 0, 0, rfl, Nat.le_refl _, Nat.zero_le _, fun h => absurd h (Nat.lt_irrefl _), fun i c k h _ => absurd h (Nat.not_lt_zero _)⟩
 ·simp [Value.cells] at h0
  obtain ⟨rfl, rfl, rfl⟩ := h0
  refine ⟨some a, l0, c0, rfl, hl, hm, fun _ => rfl, ?_⟩
  intro i c k hi0 hc2
  have hi : i < l0 := hi0
  have hi' : i < m := by rw [hmm]; split <;> omega
  obtain ⟨cs', h1, h2⟩ := hel i hi'
  obtain ⟨q1, q2⟩ := flat_ok 6 e ks hk n cs' _ h2
  obtain ⟨_, r2, r3⟩ := World.cells?_some h1
  have hcl : c < ks.length := (List.getElem?_eq_some_iff.1 hc2).1
  have hcs : c < cs'.length := by omega
  refine ⟨cs'[c], ?_, q2 c k _ hc2 (List.getElem?_eq_getElem hcs)⟩
  rw [hc] at r3
  show w.cell? ((a.add (i * ks.length)).add c) = _
  rw [r3 c hcl, List.getElem?_eq_getElem hcs]
end
theorem cell_slice {P : Program} {w : World} {r : Reach} {base : Nat} {t e : TypeId} {v : Value} (hu : P.underlying t = some (.slice e)) (h : Cell.okWide P w r base t v) : ∃ a l c, v = .slice a l c := by
 simp only [Cell.okWide, Cell.ok, hu] at h
 cases v <;> simp at h
 exact ⟨_, _, _, rfl⟩
theorem kv_conf {k : CK} {v : Value} (h : KV k v) : conf1 k v = true := by
 cases k with
 | int k => obtain ⟨n, rfl, hn⟩ := h; exact conf1_of_int hn
 | bool => obtain ⟨b, rfl⟩ := h; rfl
 | str => obtain ⟨s, rfl⟩ := h; rfl
 | any => exact False.elim h
theorem kvs_conf : ∀ {ks : List CK} {e : List Value}, e.length = ks.length → (∀ (i : Nat) (k : CK) (v : Value), ks[i]? = some k → e[i]? = some v → KV k v) → conf ks e = true
 | [], [], _, _ => rfl
 | [], _ :: _, h, _ => by simp at h
 | _ :: _, [], h, _ => by simp at h
 | k :: ks, v :: e, h, hk => by
  have h1 := kv_conf (hk 0 k v rfl rfl)
  have h2 := kvs_conf (ks := ks) (e := e) (by simpa using h) (fun i k' v' a b => hk (i + 1) k' v' a b)
  simp [conf, h1, h2]
theorem roms_ok {w : World} {rs : Nat → RSl} {F : Fns} {tb : Roms} (h : ∀ r esz ks, lk tb r = some (esz, ks) → (rs r).ks = ks ∧ ks.length = esz ∧ ks ≠ [] ∧ RGood w (rs r)) {ρ : Rho} (hz : ρ.z = envOf F w rs) (hgl : GlobOk F w := by exact Go.Proofs.Ythenenacmiiphaa.Sx.glob_nil rfl) : RomsOk tb w ρ := by
 refine ⟨by rw [hz]; exact hgl, ?_⟩
 intro r esz ks hr
 obtain ⟨e1, e2, e3, g1, g2, g4, g3⟩ := h r esz ks hr
 have hpos : 0 < ks.length := List.length_pos_iff.2 e3
 have hspot : 0 < (rs r).len → (rs r).at.spot = none ∧ (rs r).at.block < w.heap.size := by
  intro hl
  obtain ⟨k0, hk0⟩ : ∃ k, (rs r).ks[0]? = some k := by
   cases hk : (rs r).ks with
   | nil => rw [hk] at e1; rw [← e1] at hpos; simp at hpos
   | cons k l => exact ⟨k, rfl⟩
  obtain ⟨v, hv, _⟩ := g3 0 0 k0 hl hk0
  simp [Addr.add] at hv
  refine ⟨World.cell?_spot hv, ?_⟩
  unfold World.cell? at hv
  split at hv
  ·rename_i hh; exact (Array.getElem?_eq_some_iff.1 hh).1
  ·cases hv
 have hlen : (rowOf w (rs r)).length = (rs r).len := by simp [rowOf]
 have helem : ∀ (i : Nat) (e : List Value), (rowOf w (rs r))[i]? = some e → i < (rs r).len ∧ e = (List.range (rs r).ks.length).map fun c => valO (w.cell? (((rs r).at.add (i * (rs r).ks.length)).add c)) := by
  intro i e he
  unfold rowOf at he
  rw [List.getElem?_map] at he
  cases hq : (List.range (rs r).len)[i]? with
  | none => rw [hq] at he; cases he
  | some j =>
   rw [hq] at he
   simp only [Option.map_some, Option.some.injEq] at he
   obtain ⟨hq1, hq2⟩ := List.getElem?_eq_some_iff.1 hq
   simp at hq1 hq2
   subst hq2
   exact ⟨hq1, he.symm⟩
 have hcell : ∀ (i : Nat) (e : List Value), (rowOf w (rs r))[i]? = some e → ∀ (c : Nat) (v : Value), e[c]? = some v → c < ks.length ∧ w.cell? (((rs r).at.add (i * (rs r).ks.length)).add c) = some v ∧ ∀ k, ks[c]? = some k → KV k v := by
  intro i e he c v hv
  obtain ⟨hi, rfl⟩ := helem i e he
  rw [List.getElem?_map] at hv
  cases hq : (List.range (rs r).ks.length)[c]? with
  | none => rw [hq] at hv; cases hv
  | some j =>
   rw [hq] at hv
   obtain ⟨hq1, hq2⟩ := List.getElem?_eq_some_iff.1 hq
   simp at hq1 hq2
   subst hq2
   have hc : c < ks.length := by rw [← e1]; exact hq1
   obtain ⟨v', hv', hkv⟩ := g3 i c (ks[c]) hi (by rw [e1]; exact List.getElem?_eq_getElem hc)
   simp only [Option.map_some, Option.some.injEq, hv', valO] at hv
   subst hv
   refine ⟨hc, hv', fun k hk => ?_⟩
   rw [List.getElem?_eq_getElem hc] at hk
   cases hk; exact hkv
 rw [hz]
 refine ⟨e2, by simp [envOf, e1, e2], ?_, ?_, ?_, ?_⟩
 ·intro e he
  obtain ⟨i, hi, he'⟩ := List.mem_iff_getElem.1 he
  have hget : (rowOf w (rs r))[i]? = some e := by rw [← he']; exact List.getElem?_eq_getElem hi
  have hl : e.length = ks.length := by
   obtain ⟨_, rfl⟩ := helem i e hget
   simp [e1]
  exact kvs_conf hl (fun c k v hk hv => (hcell i e hget c v hv).2.2 k hk)
 ·intro hl
  simp only [envOf] at hl ⊢
  rw [hlen] at hl
  obtain ⟨s1, s2⟩ := hspot hl
  refine ⟨?_, s2⟩
  have hs := g4 hl
  unfold RSl.at at s1 ⊢
  cases hA : (rs r).a with
  | none => rw [hA] at hs; cases hs
  | some ad =>
   rw [hA] at s1
   obtain ⟨b, o, s⟩ := ad
   simp at s1; subst s1; rfl
 ·simp only [envOf]; rw [hlen]; exact g1
 ·intro i c e v he hv
  simp only [envOf] at he ⊢
  obtain ⟨hc, hv', _⟩ := hcell i e he c v hv
  obtain ⟨hi, _⟩ := helem i e he
  obtain ⟨s1, s2⟩ := hspot (by omega)
  have haddr : ((rs r).at.add (i * (rs r).ks.length)).add c = ⟨(rs r).at.block, (rs r).at.off + i * esz + c, none⟩ := by
   cases hA : (rs r).at with
   | mk b o s =>
    rw [hA] at s1; simp at s1; subst s1
    rw [addr_add, addr_add, e1, e2]
  rw [← haddr]; exact hv'
end Sx
end Go.Proofs.Ythenenacmiiphaa
namespace Go.Proofs.Ythenenacmiiphaa.Sx
open Go
theorem all_nil {α : Type _} {f : α → Prop} : ∀ v ∈ ([] : List α), f v := fun v h => by cases h
theorem all_cons {α : Type _} {f : α → Prop} {a : α} {l : List α} (h : f a) (h2 : ∀ v ∈ l, f v) : ∀ v ∈ a :: l, f v := fun v hv => by
 rcases List.mem_cons.1 hv with rfl | hv
 ·exact h
 ·exact h2 v hv
theorem h_nil {ρ : Rho} : Holds ρ [] = True := by simp [Holds]
theorem h_cons {ρ : Rho} {p : BE} {l : List BE} : Holds ρ (p :: l) = (p.den ρ = true ∧ Holds ρ l) := by simp [Holds]
theorem d_le {ρ : Rho} {x y : IE} : ((BE.le x y).den ρ = true) = (x.den ρ ≤ y.den ρ) := by simp only [BE.den]; exact propext ⟨of_decide_eq_true, fun h => decide_eq_true h⟩
theorem d_eq {ρ : Rho} {x y : IE} : ((BE.eq x y).den ρ = true) = (x.den ρ = y.den ρ) := by simp only [BE.den]; exact propext ⟨of_decide_eq_true, fun h => decide_eq_true h⟩
theorem d_not {ρ : Rho} {x : BE} : ((BE.not x).den ρ = true) = ¬ (x.den ρ = true) := by simp [BE.den]
theorem d_and {ρ : Rho} {x y : BE} : ((BE.and x y).den ρ = true) = (x.den ρ = true ∧ y.den ρ = true) := by simp [BE.den]
theorem d_iff {ρ : Rho} {x y : BE} : ((BE.iff x y).den ρ = true) = (x.den ρ = y.den ρ) := by simp [BE.den]
theorem d_lit {ρ : Rho} {b : Bool} : (BE.lit b).den ρ = b := by simp only [BE.den]
theorem d_var {ρ : Rho} {n : Nat} : (BE.var n).den ρ = ρ.b n := by simp only [BE.den]
theorem d_cel {ρ : Rho} {l : LE} {i : IE} {j : Nat} : (BE.cel l i j).den ρ = boolV (celV (l.den ρ) (i.den ρ) j) := by simp only [BE.den]
theorem d_leq {ρ : Rho} {a b : LE} : ((BE.leq a b).den ρ = true) = (a.den ρ = b.den ρ) := by simp only [BE.den, eqV]; exact propext ⟨fun h => by simpa using h, fun h => by simpa using h⟩
theorem d_fn {ρ : Rho} {n : Nat} {a : AL} : (BE.fn n a).den ρ = ρ.z.F.b n (a.den ρ) := by simp only [BE.den]
def VD (T : Tab) (C : Cfg) : VW → Prop
 | .done pc (some gs) => ∀ ρ, Known T C ρ → Holds ρ pc → ∀ g ∈ gs, g.den ρ
 | _ => False
noncomputable def st0 (c : Ctr) : Cfg := startF c.f c.pat (.lit true :: c.pre)
theorem told_vwM {F : Fns} {c : Ctr} {cs : List Ctr} {ms' : List Mtr} (hcs : ∀ d ∈ cs, Told F d) (hms : ∀ d ∈ ms', MTold F d) (n : Nat) (vw : List VW) (hb : bodyB c.f = true) (hflat : ctrFlat c = true) (hnames : ctrNames c = true) (hpost : PostOk F c) (hok : cfgOk (st0 c) = true)
  (hseg : segL c.roms c (seg (TM F c.roms cs ms') [] n [(0, st0 c)] (st0 c)) = (true, codesR [(0, st0 c)] (views (seg (TM F c.roms cs ms') [] n [(0, st0 c)] (st0 c))), vw)) (hvc : ∀ v ∈ vw, VD (TM F c.roms cs ms') (st0 c) v) : Told F c := by
 have e0 : ∀ k C, lk [(0, st0 c)] k = some C → C = st0 c := by
  intro k C hk
  rw [lk_cons, lk_nil] at hk
  split at hk
  ·cases hk; rfl
  ·cases hk
 refine told_ofM hcs hms (sel := []) n [(0, st0 c)] (fun _ _ => True) (fun _ _ => 0) (fun _ => vw) 0 hb hflat hnames hpost (fun k C hk => by rw [e0 k C hk]; exact hok) (fun k C hk => by rw [e0 k C hk]; exact hseg) (fun k C hk v hv => ?_) (by rw [lk_cons, if_pos rfl]; rfl) (fun ρ _ hp => hp.cons (p := .lit true) (by simp only [BE.den])) (fun _ _ _ _ => trivial) (fun k C hk ρ _ _ => by rw [e0 k C hk]; rw [show st0 c = startF c.f c.pat (.lit true :: c.pre) from rfl, flat_start hflat]; exact fun p hp => by cases hp)
 have := hvc v hv
 rw [e0 k C hk]
 cases v with
 | done pc g =>
  cases g with
  | none => exact this
  | some gs => exact fun ρ kn _ hp => this ρ kn hp
 | cut k pc S => exact absurd this id
 | bad a b => exact absurd this id
theorem told_vw {F : Fns} {c : Ctr} {cs : List Ctr} (hcs : ∀ d ∈ cs, Told F d) (n : Nat) (vw : List VW) (hb : bodyB c.f = true) (hflat : ctrFlat c = true) (hnames : ctrNames c = true) (hpost : PostOk F c) (hok : cfgOk (st0 c) = true)
  (hseg : segL c.roms c (seg (T F c.roms cs) [] n [(0, st0 c)] (st0 c)) = (true, codesR [(0, st0 c)] (views (seg (T F c.roms cs) [] n [(0, st0 c)] (st0 c))), vw)) (hvc : ∀ v ∈ vw, VD (T F c.roms cs) (st0 c) v) : Told F c := told_vwM (ms' := []) hcs mems_nil n vw hb hflat hnames hpost hok hseg hvc
theorem law_told {F : Fns} {c : Ctr} (h : Told F c) (hres : c.res = .bool (.lit true)) {ρ : Rho} {w : World} (hpre : Holds ρ c.pre) (hg : Gd F ρ) (hr : RomsOk c.roms w ρ) : Calls Try.prog c.f (SV.denL ρ c.pat).toArray w fun e w' => e = .returned (.bool true) ∧ w.grownBy w' none := by
 refine (h.ok.call ρ w hg hr hpre).mono ?_
 rintro e w' ⟨ρ', _, he, hH⟩
 rw [hres, endS_ret (by rfl)] at he
 refine ⟨by rw [he]; simp only [SV.den, BE.den], hH.g0.gr⟩
theorem den_rom {ρ : Rho} {F : Fns} {w : World} {rs : Nat → RSl} (hz : ρ.z = envOf F w rs) (r : Nat) : (SV.rom r (.lit 0) (.len (.rom r)) none).den ρ = .slice (rs r).a (rs r).len (rs r).cap := by
 simp only [SV.den, hz, envOf, IE.den, LE.den, lenV, rowOf, capDen, List.length_map, List.length_range, Int.toNat_natCast, Int.toNat_zero, Nat.zero_mul, Nat.sub_zero]
 cases (rs r).a <;> rfl
theorem den_rom0 {ρ : Rho} {F : Fns} {w : World} {rs : Nat → RSl} (hz : ρ.z = envOf F w rs) (r : Nat) (h0 : (rs r).len = 0) : (SV.rom r (.lit 0) (.lit 0) none).den ρ = .slice (rs r).a (rs r).len (rs r).cap := by
 simp only [SV.den, hz, envOf, IE.den, capDen, h0, Int.toNat_zero, Nat.zero_mul, Nat.sub_zero]
 cases (rs r).a <;> rfl
theorem len_rom {ρ : Rho} {F : Fns} {w : World} {rs : Nat → RSl} (hz : ρ.z = envOf F w rs) (r : Nat) : (IE.len (.rom r)).den ρ = ((rs r).len : Int) := by
 simp [IE.den, LE.den, lenV, hz, envOf, rowOf]
theorem roms_nil {w : World} {ρ : Rho} {F : Fns} (hF : ρ.z.F = F) (hgl : GlobOk F w := by exact Go.Proofs.Ythenenacmiiphaa.Sx.glob_nil rfl) : RomsOk [] w ρ := ⟨by rw [hF]; exact hgl, fun r esz cl h => by rw [lk_nil] at h; cases h⟩
theorem roms_one {w : World} {rs : Nat → RSl} {F : Fns} {esz : Nat} {ks : List CK} (h : (rs 0).ks = ks ∧ ks.length = esz ∧ ks ≠ [] ∧ RGood w (rs 0)) {ρ : Rho} (hz : ρ.z = envOf F w rs) (hgl : GlobOk F w := by exact Go.Proofs.Ythenenacmiiphaa.Sx.glob_nil rfl) : RomsOk [(0, (esz, ks))] w ρ := by
 refine roms_ok (rs := rs) (F := F) ?_ hz hgl
 intro r esz' ks' hr
 rw [lk_cons, lk_nil] at hr
 split at hr
 ·rename_i e
  cases hr; subst e; exact h
 ·cases hr
theorem roms_two {w : World} {rs : Nat → RSl} {F : Fns} {esz esz1 : Nat} {ks ks1 : List CK} (h : (rs 0).ks = ks ∧ ks.length = esz ∧ ks ≠ [] ∧ RGood w (rs 0)) (h1 : (rs 1).ks = ks1 ∧ ks1.length = esz1 ∧ ks1 ≠ [] ∧ RGood w (rs 1)) {ρ : Rho} (hz : ρ.z = envOf F w rs) (hgl : GlobOk F w := by exact Go.Proofs.Ythenenacmiiphaa.Sx.glob_nil rfl) : RomsOk [(0, (esz, ks)), (1, (esz1, ks1))] w ρ := by
 refine roms_ok (rs := rs) (F := F) ?_ hz hgl
 intro r esz' ks' hr
 rw [lk_cons, lk_cons, lk_nil] at hr
 split at hr
 ·rename_i e
  cases hr; subst e; exact h
 ·split at hr
  ·rename_i e
   cases hr; subst e; exact h1
  ·cases hr
end Go.Proofs.Ythenenacmiiphaa.Sx
namespace Go.Proofs.Ythenenacmiiphaa.Sx
open Go
def atI (l : LV) (i : Nat) (j : Nat) : Int := clampK .i64 (intV (celV l (i : Int) j))
def atO (l : LV) (i : Nat) (j : Nat) : Bool := boolV (celV l (i : Int) j)
theorem at_z {l : LV} {i : Int} (h : 0 ≤ i) (j : Nat) : clampK .i64 (intV (celV l i j)) = atI l i.toNat j := by
 unfold atI; rw [Int.toNat_of_nonneg h]
theorem at_s {i : Int} (h : 0 ≤ i) : (i + 1).toNat = i.toNat + 1 := by omega
theorem beq_of {a b : Bool} (h : (a = true) ↔ (b = true)) : a = b := Bool.eq_iff_iff.2 h
theorem clamp_id {k : IntKind} {n : Int} (h : kmin k ≤ n ∧ n ≤ kmax k) : clampK k n = n := by unfold clampK; rw [if_pos h]
theorem clampS {x : Int} (h : 0 ≤ x) (h2 : x ≤ 4611686018427387904) : clampK .i64 x = x := clamp_id ⟨by show (-9223372036854775808 : Int) ≤ _; omega, by show _ ≤ (9223372036854775807 : Int); omega⟩
theorem wrapS {x : Int} (h : -4611686018427387904 ≤ x) (h2 : x ≤ 4611686018427387904) : IntKind.wrap .i64 x = x := wrap_in .i64 _ (by show (-9223372036854775808 : Int) ≤ _; omega) (by show _ ≤ (9223372036854775807 : Int); omega)
theorem clamp_clamp (k : IntKind) (x : Int) : clampK k (clampK k x) = clampK k x := by
 by_cases h : kmin k ≤ x ∧ x ≤ kmax k
 ·have e : clampK k x = x := by unfold clampK; rw [if_pos h]
  rw [e, e]
 ·have e : clampK k x = 0 := by unfold clampK; rw [if_neg h]
  rw [e]; unfold clampK; split <;> rfl
theorem clamp_rng (k : IntKind) (x : Int) : kmin k ≤ clampK k x ∧ clampK k x ≤ kmax k := by
 unfold clampK; split
 ·assumption
 ·exact ⟨k0_lo k, k0_hi k⟩
theorem atI_rng (l : LV) (i j : Nat) : -9223372036854775808 ≤ atI l i j ∧ atI l i j ≤ 9223372036854775807 := clamp_rng .i64 _
def firstP (p : Nat → Bool) : Nat → Nat
 | 0 => 0
 | n + 1 => if firstP p n < n then firstP p n else (if p n then n else n + 1)
theorem first_le (p : Nat → Bool) : ∀ n, firstP p n ≤ n
 | 0 => Nat.le_refl _
 | n + 1 => by
  have := first_le p n
  unfold firstP; split
  ·omega
  ·split <;> omega
theorem first_no {p : Nat → Bool} {i : Nat} (hi : firstP p i = i) (hp : p i = false) : firstP p (i + 1) = i + 1 := by
 rw [firstP, if_neg (by omega), hp]; simp
theorem first_stay {p : Nat → Bool} {i : Nat} (h : firstP p i < i) : ∀ n, i ≤ n → firstP p n = firstP p i
 | 0, hn => by rw [show i = 0 by omega]
 | n + 1, hn => by
  by_cases e : i = n + 1
  ·rw [e]
  ·have := first_stay h n (by omega)
   rw [firstP, if_pos (by omega), this]
theorem first_yes {p : Nat → Bool} {i n : Nat} (hn : i < n) (hi : firstP p i = i) (hp : p i = true) : firstP p n = i := by
 have h1 : firstP p (i + 1) = i := by rw [firstP, if_neg (by omega), hp]; simp
 rw [first_stay (i := i + 1) (by omega) n (by omega), h1]
theorem first_lt {p : Nat → Bool} : ∀ {n i : Nat}, i < firstP p n → p i = false
 | 0, i, h => by simp [firstP] at h
 | n + 1, i, h => by
  rw [firstP] at h
  split at h
  ·exact first_lt h
  ·rename_i h1
   have := first_le p n
   split at h
   ·exact first_lt (n := n) (by omega)
   ·rename_i hp
    by_cases e : i = n
    ·rw [e]; exact Bool.eq_false_iff.2 hp
    ·exact first_lt (n := n) (by omega)
theorem first_at {p : Nat → Bool} : ∀ {n : Nat}, firstP p n < n → p (firstP p n) = true
 | 0, h => by omega
 | n + 1, h => by
  rw [firstP] at h ⊢
  split at h
  ·rename_i h1; rw [if_pos h1]; exact first_at h1
  ·rename_i h1
   rw [if_neg h1]
   split at h
   ·rename_i hp; rw [if_pos hp]; exact hp
   ·omega
theorem first_all {p : Nat → Bool} {n : Nat} (h : n ≤ firstP p n) {i : Nat} (hi : i < n) : p i = false := first_lt (n := n) (by omega)
theorem first_none {p : Nat → Bool} : ∀ {n : Nat}, (∀ i, i < n → p i = false) → firstP p n = n
 | 0, _ => rfl
 | n + 1, h => first_no (first_none fun i hi => h i (by omega)) (h n (by omega))
def allP (p : Nat → Bool) : Nat → Bool
 | 0 => true
 | n + 1 => allP p n && p n
theorem all_at {p : Nat → Bool} : ∀ {n i : Nat}, allP p n = true → i < n → p i = true
 | n + 1, i, h, hi => by
  simp only [allP, Bool.and_eq_true] at h
  by_cases e : i = n
  ·rw [e]; exact h.2
  ·exact all_at h.1 (by omega)
theorem all_of {p : Nat → Bool} : ∀ {n : Nat}, (∀ i, i < n → p i = true) → allP p n = true
 | 0, _ => rfl
 | n + 1, h => by rw [allP, all_of fun i hi => h i (by omega), h n (by omega)]; rfl
theorem all_f {p : Nat → Bool} {n i : Nat} (hi : i < n) (h : p i = false) : allP p n = false := Bool.eq_false_iff.2 fun hh => by rw [all_at hh hi] at h; cases h
theorem all_le {p : Nat → Bool} {n k : Nat} (h : allP p n = true) (hk : k ≤ n) : allP p k = true := all_of fun i hi => all_at h (by omega)
def eqC (a b : LV) (i : Int) : List CK → Nat → Prop
 | [], _ => True
 | .int k :: ks, j => clampK k (intV (celV a i j)) = clampK k (intV (celV b i j)) ∧ eqC a b i ks (j + 1)
 | .bool :: ks, j => boolV (celV a i j) = boolV (celV b i j) ∧ eqC a b i ks (j + 1)
 | .str :: ks, j => strV (celV a i j) = strV (celV b i j) ∧ eqC a b i ks (j + 1)
 | .any :: ks, j => celV a i j = celV b i j ∧ eqC a b i ks (j + 1)
def plainK : List CK → Bool
 | [] => true
 | .int _ :: ks => plainK ks
 | .bool :: ks => plainK ks
 | _ => false
theorem eqC_ext {a b : LV} {i : Int} : ∀ {ks : List CK} {j : Nat} {x y : List Value}, plainK ks = true → conf ks x = true → conf ks y = true → (∀ c, celV a i (j + c) = x.getD c (.bool false)) → (∀ c, celV b i (j + c) = y.getD c (.bool false)) → eqC a b i ks j → x = y
 | [], j, [], [], _, _, _, _, _, _ => rfl
 | [], j, _ :: _, _, _, h, _, _, _, _ => by simp [conf] at h
 | [], j, [], _ :: _, _, _, h, _, _, _ => by simp [conf] at h
 | k :: ks, j, [], _, _, h, _, _, _, _ => by simp [conf] at h
 | k :: ks, j, _ :: _, [], _, _, h, _, _, _ => by simp [conf] at h
 | k :: ks, j, v :: x, w :: y, hk, h1, h2, e1, e2, h => by
  simp only [conf] at h1 h2
  obtain ⟨p1, p2⟩ := ifb h1
  obtain ⟨q1, q2⟩ := ifb h2
  have a0 : celV a i j = v := by have := e1 0; simpa using this
  have b0 : celV b i j = w := by have := e2 0; simpa using this
  have a1 : ∀ c, celV a i (j + 1 + c) = x.getD c (.bool false) := fun c => by have := e1 (c + 1); rw [show j + 1 + c = j + (c + 1) by omega, this]; rfl
  have b1 : ∀ c, celV b i (j + 1 + c) = y.getD c (.bool false) := fun c => by have := e2 (c + 1); rw [show j + 1 + c = j + (c + 1) by omega, this]; rfl
  cases k with
  | int k =>
   simp only [eqC, a0, b0] at h
   have r := eqC_ext (by simpa [plainK] using hk) p2 q2 a1 b1 h.2
   rw [r, (conf1_int p1).1, (conf1_int q1).1, h.1]
  | bool =>
   simp only [eqC, a0, b0] at h
   have r := eqC_ext (by simpa [plainK] using hk) p2 q2 a1 b1 h.2
   rw [r, conf1_bool p1, conf1_bool q1, h.1]
  | str => simp [plainK] at hk
  | any => simp [plainK] at hk
theorem cel_getD {l : LV} {i : Int} (hl : i.toNat < l.length) (c : Nat) : celV l i c = (l[i.toNat]).getD c (.bool false) := by
 unfold celV
 rw [List.getD_eq_getElem?_getD (l := l), List.getElem?_eq_getElem hl]; rfl
theorem same_s {ks : List CK} {a b : LV} {i : Int} (hk : plainK ks = true) (ta : Typed ks a) (tb : Typed ks b) (h0 : 0 ≤ i) (ha : i < (a.length : Int)) (hb : i < (b.length : Int)) (ht : a.take i.toNat = b.take i.toNat) (hc : eqC a b i ks 0) : a.take (i + 1).toNat = b.take (i + 1).toNat := by
 have la : i.toNat < a.length := by omega
 have lb : i.toNat < b.length := by omega
 rw [at_s h0, List.take_add_one, List.take_add_one, ht, List.getElem?_eq_getElem la, List.getElem?_eq_getElem lb]
 rw [eqC_ext hk (ta _ (List.getElem_mem la)) (tb _ (List.getElem_mem lb)) (fun c => by rw [Nat.zero_add]; exact cel_getD la c) (fun c => by rw [Nat.zero_add]; exact cel_getD lb c) hc]
theorem same_end {a b : LV} {i : Int} (ht : a.take i.toNat = b.take i.toNat) (ha : (a.length : Int) ≤ i) (hl : (a.length : Int) = (b.length : Int)) : a = b := by
 rw [List.take_of_length_le (by omega), List.take_of_length_le (by omega)] at ht
 exact ht
theorem eqV_t {a b : LV} (h : a = b) : eqV a b = true := by unfold eqV; simpa using h
theorem eqV_f {a b : LV} (h : ¬ a = b) : eqV a b = false := by unfold eqV; simpa using h
theorem eqC_refl {a b : LV} {i : Int} (h : a = b) : ∀ {ks : List CK} {j : Nat}, eqC a b i ks j
 | [], _ => trivial
 | .int k :: ks, j => ⟨by rw [h], eqC_refl h⟩
 | .bool :: ks, j => ⟨by rw [h], eqC_refl h⟩
 | .str :: ks, j => ⟨by rw [h], eqC_refl h⟩
 | .any :: ks, j => ⟨by rw [h], eqC_refl h⟩
theorem field_good {H : Type} {enc : TypeId × Value → H} {P : Program} {w : World} {base : Nat} {spare : Nat → Bool} {held : Bool} {t e : TypeId} {fs : Array Field} {j : Nat} {f : Field} {cs : List Value} {dd : DataW H} {ps : List MemPlace} {ks : List CK} {v : Value}
  (hu : P.underlying t = some (.struct fs)) (hj : fs[j]? = some f) (ht : P.underlying f.type = some (.slice e)) (hc1 : P.cellsOf f.type = 1) (hk : flatChk P 6 e ks = true) (hc : P.cellsOf e = ks.length) (hcell : cs[f.offset]? = some v) (hv : ∃ a l c, v = .slice a l c) (h : DataW.Trod enc P w base spare held t (.agg cs.toArray) dd ps) :
  ∃ a len cap, v = .slice a len cap ∧ RGood w ⟨a, len, cap, ks⟩ := by
 obtain ⟨a, l, c, rfl⟩ := hv
 obtain ⟨fuel, hx⟩ := h
 have hx' : DataW.trod enc P w base spare held fuel t cs = some (dd, ps) := by simpa [Value.cells] using hx
 obtain ⟨xs, n, _, _, hlen, hxl, hf⟩ := DataW.trod_struct hu hx'
 have hjs : j < fs.size := (Array.getElem?_eq_some_iff.1 hj).1
 have hx1 := hf j f hj
 rw [List.getElem?_eq_getElem (by omega)] at hx1
 have h1 : (cs.drop f.offset).take (P.cellsOf f.type) = [.slice a l c] := by
  rw [hc1, List.take_one, List.head?_drop, hcell]; rfl
 rw [h1] at hx1
 exact slice_good (dd := (xs[j]'(by omega)).1) (ps := (xs[j]'(by omega)).2) ht hk hc ⟨a, l, c, rfl⟩ ⟨n, hx1⟩
end Go.Proofs.Ythenenacmiiphaa.Sx
namespace Go.Proofs.Ythenenacmiiphaa.Sx
open Go
noncomputable section
structure Defs where
 i : List (Nat × (IntKind × (AL × IE)))
 b : List (Nat × (AL × BE))
 l : List (Nat × (AL × List (BE × LE)))
 cut : List Nat := []
structure DefsOk (F : Fns) (D : Defs) : Prop where
 i : ∀ n k p e, lk D.i n = some (k, p, e) → ∀ ρ : Rho, ρ.z.F = F → (IE.fn k n p).den ρ = e.den ρ
 b : ∀ n p e, lk D.b n = some (p, e) → ∀ ρ : Rho, ρ.z.F = F → (BE.fn n p).den ρ = e.den ρ
 l : ∀ n p cs, lk D.l n = some (p, cs) → ∀ ρ : Rho, ρ.z.F = F → ∀ x ∈ cs, x.1.den ρ = true → (LE.fn n p).den ρ = x.2.den ρ
def bindA : AL → AL → Sub → Option Sub
 | .nil, .nil, S => some S
 | .int k (.var _ n) r, .int j e q, S => bindA r q { S with i := (k, n, e) :: S.i }
 | .bool (.var n) r, .bool b q, S => bindA r q { S with b := (n, b) :: S.b }
 | .lst (.var n) r, .lst l q, S => bindA r q { S with l := (n, l) :: S.l }
 | _, _, _ => none
def bindS (pc : List BE) (p a : AL) : Option Sub := match bindA p a Sub.nil with
 | some S => if (p.sb pc S).beq a then some S else none
 | none => none
def expI (D : Defs) (pc : List BE) (k : IntKind) (n : Nat) (a : AL) : Option IE := match lk D.i n with
 | some (j, p, e) => if keq j k then (match bindS pc p a with
  | some S => some (e.sb pc S)
  | none => none) else none
 | none => none
def expB (D : Defs) (pc : List BE) (n : Nat) (a : AL) : Option BE := match lk D.b n with
 | some (p, e) => (match bindS pc p a with
  | some S => some (e.sb pc S)
  | none => none)
 | none => none
structure Smp where
 i : IE → IE
 b : BE → BE
 l : LE → LE
 a : AL → AL
def pickC (r : Smp) (pc : List BE) (S : Sub) : List (BE × LE) → Option LE
 | [] => none
 | (c, e) :: l => (match r.b (c.sb pc S) with
  | .lit true => some (e.sb pc S)
  | _ => pickC r pc S l)
def expL (D : Defs) (r : Smp) (pc : List BE) (n : Nat) (a : AL) : Option LE := match lk D.l n with
 | some (p, cs) => (match bindS pc p a with
  | some S => pickC r pc S cs
  | none => none)
 | none => none
def tryB (pc : List BE) (c : BE) : BE := match dec pc c with
 | some b => .lit b
 | none => c
def catN : LE → LE → LE
 | .cat x y, z => .cat x (catN y z)
 | .nil, z => z
 | x, .nil => x
 | x, z => .cat x z
def smA (r : Smp) : AL → AL
 | .nil => .nil
 | .int k e q => fIE (r.i e) fun e => .int k e (smA r q)
 | .bool b q => fBE (r.b b) fun b => .bool b (smA r q)
 | .lst l q => fLE (r.l l) fun l => .lst l (smA r q)
 | .cel l i j q => .cel (r.l l) (r.i i) j (smA r q)
def smI (D : Defs) (pc : List BE) (r : Smp) : IE → IE
 | .add x y => fIE (r.i x) fun x => fIE (r.i y) fun y => addE x y
 | .sub x y => fIE (r.i x) fun x => fIE (r.i y) fun y => subE x y
 | .mul x y => fIE (r.i x) fun x => fIE (r.i y) fun y => .mul x y
 | .wrap k x => fIE (r.i x) fun x => wrapK k pc x
 | .bin o k x y => .bin o k (r.i x) (r.i y)
 | .ite c x y => (match r.b c with
  | .lit true => r.i x
  | .lit false => r.i y
  | c => .ite c (r.i x) (r.i y))
 | .fn k n a => fAL (r.a a) fun a => (match expI D pc k n a with
  | some e => fIE e fun e => r.i e
  | none => .fn k n a)
 | .cel k l i j => .cel k (r.l l) (r.i i) j
 | .len l => lenE pc (r.l l)
 | e => e
def iteB (c p q : BE) : BE := match p, q with
 | .lit true, .lit true => .lit true
 | .lit false, .lit false => .lit false
 | .lit true, .lit false => c
 | .lit false, .lit true => mkNot c
 | p, .lit false => mkAnd c p
 | .lit false, q => mkAnd (mkNot c) q
 | p, .lit true => mkNot (mkAnd c (mkNot p))
 | .lit true, q => mkNot (mkAnd (mkNot c) (mkNot q))
 | p, q => mkNot (mkAnd (mkNot (mkAnd c p)) (mkNot (mkAnd (mkNot c) q)))
def ctest (e : Bool) (x y : IE) : BE := match e with
 | true => .eq x y
 | false => .le x y
def leT (x y : IE) : BE := match y with
 | .sub z (.lit (.ofNat 1)) => .not (.le z x)
 | y => mkLe x y
def mkT (e : Bool) (x y : IE) : BE := match e with
 | true => mkEq x y
 | false => leT x y
def cmpB (pc : List BE) (r : Smp) (e : Bool) (x y : IE) : BE := match x, y with
 | .ite c a b, y => iteB (r.b c) (r.b (ctest e a y)) (r.b (ctest e b y))
 | x, .ite c a b => iteB (r.b c) (r.b (ctest e x a)) (r.b (ctest e x b))
 | x, y => tryB pc (mkT e x y)
def smB (D : Defs) (pc : List BE) (r : Smp) : BE → BE
 | .le x y => fIE (r.i x) fun x => fIE (r.i y) fun y => cmpB pc r false x y
 | .eq x y => fIE (r.i x) fun x => fIE (r.i y) fun y => cmpB pc r true x y
 | .not x => mkNot (r.b x)
 | .and x y => (match r.b x with
  | .lit false => .lit false
  | x => (match r.b y with
   | .lit false => .lit false
   | y => mkAnd x y))
 | .iff x y => mkIff (r.b x) (r.b y)
 | .fn n a => fAL (r.a a) fun a => (match hasB (.fn n a) pc with
  | some b => .lit b
  | none => (match expB D pc n a with
   | some e => fBE e fun e => r.b e
   | none => .fn n a))
 | .cel l i j => tryB pc (.cel (r.l l) (r.i i) j)
 | .leq a b => tryB pc (.leq (r.l a) (r.l b))
 | c => tryB pc c
def smL (D : Defs) (pc : List BE) (r : Smp) : LE → LE
 | .cat a b => fLE (r.l a) fun a => fLE (r.l b) fun b => catN a b
 | .one c => .one (r.a c)
 | .set a i c => .set (r.l a) (r.i i) (r.a c)
 | .take a i => .take (r.l a) (r.i i)
 | .drop a i => fIE (r.i i) fun i => (match i with
  | .lit (.ofNat 0) => r.l a
  | i => .drop (r.l a) i)
 | .rep c n => .rep (r.a c) (r.i n)
 | .fn n a => fAL (r.a a) fun a => (match expL D r pc n a with
  | some e => fLE e fun e => r.l e
  | none => .fn n a)
 | l => l
def smN (D : Defs) (pc : List BE) : Nat → Smp
 | 0 => ⟨id, id, id, id⟩
 | n + 1 => match smN D pc n with
  | r => ⟨smI D pc r, smB D pc r, smL D pc r, smA r⟩
structure SmpOk (ρ : Rho) (r : Smp) : Prop where
 i : ∀ e, (r.i e).den ρ = e.den ρ
 b : ∀ e, (r.b e).den ρ = e.den ρ
 l : ∀ e, (r.l e).den ρ = e.den ρ
 a : ∀ e, (r.a e).den ρ = e.den ρ
section
variable {F : Fns} {D : Defs} {ρ : Rho} {pc : List BE} {r : Smp}
theorem bindS_ok (hρ : ρ.Ok) (hp : Holds ρ pc) {p a : AL} {S : Sub} (h : bindS pc p a = some S) : p.den (ρ.sb S) = a.den ρ := by
 unfold bindS at h
 split at h
 ·split at h
  ·rename_i S' _ hb
   cases h
   rw [← AL.sb_den hρ hp, AL.beq_eq _ _ hb]
  ·cases h
 ·cases h
theorem sbF (S : Sub) : (ρ.sb S).z.F = ρ.z.F := rfl
theorem expI_ok (hD : DefsOk F D) (hF : ρ.z.F = F) (hρ : ρ.Ok) (hp : Holds ρ pc) {k : IntKind} {n : Nat} {a : AL} {e : IE} (h : expI D pc k n a = some e) : e.den ρ = (IE.fn k n a).den ρ := by
 unfold expI at h
 split at h
 ·rename_i j p e' hl
  split at h
  ·rename_i hk
   split at h
   ·rename_i S hS
    cases h
    rw [IE.sb_den hρ hp, ← hD.i _ _ _ _ hl (ρ.sb S) (by rw [sbF]; exact hF)]
    simp only [IE.den, bindS_ok hρ hp hS, sbF, (keq_iff _ _).1 hk]
   ·cases h
  ·cases h
 ·cases h
theorem expB_ok (hD : DefsOk F D) (hF : ρ.z.F = F) (hρ : ρ.Ok) (hp : Holds ρ pc) {n : Nat} {a : AL} {e : BE} (h : expB D pc n a = some e) : e.den ρ = (BE.fn n a).den ρ := by
 unfold expB at h
 split at h
 ·rename_i p e' hl
  split at h
  ·rename_i S hS
   cases h
   rw [BE.sb_den hρ hp, ← hD.b _ _ _ hl (ρ.sb S) (by rw [sbF]; exact hF)]
   simp only [BE.den, bindS_ok hρ hp hS, sbF]
  ·cases h
 ·cases h
theorem pickC_ok (hr : SmpOk ρ r) (hρ : ρ.Ok) (hp : Holds ρ pc) {S : Sub} {v : LV} : ∀ {cs : List (BE × LE)}, (∀ x ∈ cs, x.1.den (ρ.sb S) = true → v = x.2.den (ρ.sb S)) → ∀ {e : LE}, pickC r pc S cs = some e → e.den ρ = v
 | [], _, e, h => by cases h
 | (c, x) :: l, hc, e, h => by
  simp only [pickC] at h
  split at h
  ·rename_i hq
   cases h
   have h1 : c.den (ρ.sb S) = true := by
    rw [← BE.sb_den hρ hp, ← hr.b, hq]; simp only [BE.den]
   rw [LE.sb_den hρ hp, hc _ (List.mem_cons_self ..) h1]
  ·exact pickC_ok hr hρ hp (fun y hy => hc y (List.mem_cons_of_mem _ hy)) h
theorem expL_ok (hD : DefsOk F D) (hF : ρ.z.F = F) (hρ : ρ.Ok) (hp : Holds ρ pc) (hr : SmpOk ρ r) {n : Nat} {a : AL} {e : LE} (h : expL D r pc n a = some e) : e.den ρ = (LE.fn n a).den ρ := by
 unfold expL at h
 split at h
 ·rename_i p cs hl
  split at h
  ·rename_i S hS
   refine pickC_ok hr hρ hp (fun x hx h1 => ?_) h
   rw [← hD.l _ _ _ hl (ρ.sb S) (by rw [sbF]; exact hF) x hx h1]
   simp only [LE.den, bindS_ok hρ hp hS, sbF]
  ·cases h
 ·cases h
theorem tryB_ok (hρ : ρ.Ok) (hp : Holds ρ pc) (c : BE) : (tryB pc c).den ρ = c.den ρ := by
 unfold tryB
 split
 ·rename_i b h
  rw [dec_den hρ hp _ _ h]; simp only [BE.den]
 ·rfl
theorem catN_den : ∀ a b : LE, (catN a b).den ρ = a.den ρ ++ b.den ρ := by
  intro a b
  fun_induction catN a b <;> simp_all [LE.den]
theorem smA_ok (hr : SmpOk ρ r) : ∀ a : AL, (smA r a).den ρ = a.den ρ
 | .nil => rfl
 | .int k e q => by simp only [smA, fIE_eq, AL.den, hr.i, smA_ok hr q]
 | .bool b q => by simp only [smA, fBE_eq, AL.den, hr.b, smA_ok hr q]
 | .lst l q => by simp only [smA, fLE_eq, AL.den, hr.l, smA_ok hr q]
 | .cel l i j q => by simp only [smA, AL.den, hr.l, hr.i, smA_ok hr q]
theorem smI_ok (hD : DefsOk F D) (hF : ρ.z.F = F) (hρ : ρ.Ok) (hp : Holds ρ pc) (hr : SmpOk ρ r) (e : IE) : (smI D pc r e).den ρ = e.den ρ := by
 unfold smI
 split
 ·simp only [fIE_eq, IE.den, addE_den, hr.i]
 ·simp only [fIE_eq, IE.den, subE_den, hr.i]
 ·simp only [fIE_eq, IE.den, hr.i]
 ·simp only [fIE_eq, wrapK_den hρ hp, IE.den, hr.i]
 ·simp only [IE.den, hr.i]
 ·rename_i c x y
  have := hr.b c
  split
  ·rename_i h
   rw [h] at this
   simp only [BE.den] at this
   simp only [IE.den, hr.i, ← this, if_true]
  ·rename_i h
   rw [h] at this
   simp only [BE.den] at this
   simp only [IE.den, hr.i, ← this]; rfl
  ·simp only [IE.den, hr.i, this]
 ·rename_i k n a
  simp only [fAL_eq, fIE_eq]
  split
  ·rename_i e h
   rw [hr.i, expI_ok hD hF hρ hp h]
   simp only [IE.den, hr.a]
  ·simp only [IE.den, hr.a]
 ·simp only [IE.den, hr.l, hr.i]
 ·rw [lenE_den hρ hp]; simp only [IE.den, hr.l, lenV]
 ·rfl
theorem iteB_den (c p q : BE) : (iteB c p q).den ρ = if c.den ρ then p.den ρ else q.den ρ := by
 unfold iteB
 split <;> simp only [mkNot_den, mkAnd_den, BE.den] <;> cases c.den ρ <;> simp
theorem leT_den (x y : IE) : (leT x y).den ρ = decide (x.den ρ ≤ y.den ρ) := by
 unfold leT
 split
 ·rename_i z
  rw [Bool.eq_iff_iff]
  show (BE.not (.le z x)).den ρ = true ↔ _
  rw [d_not, d_le, decide_eq_true_eq]
  simp only [IE.den]
  show ¬ z.den ρ ≤ x.den ρ ↔ x.den ρ ≤ z.den ρ - 1
  omega
 ·exact mkLe_den x _
theorem mkT_den (e : Bool) (x y : IE) : (mkT e x y).den ρ = (ctest e x y).den ρ := by
 cases e
 ·simp only [mkT, ctest, leT_den, BE.den]
 ·simp only [mkT, ctest, mkEq_den, BE.den]
theorem iteI_t {c : BE} (a b : IE) (h : c.den ρ = true) : (IE.ite c a b).den ρ = a.den ρ := by simp only [IE.den]; rw [if_pos h]
theorem iteI_f {c : BE} (a b : IE) (h : ¬ c.den ρ = true) : (IE.ite c a b).den ρ = b.den ρ := by simp only [IE.den]; rw [if_neg h]
theorem ctest_cong (e : Bool) {x y x' y' : IE} (h : x.den ρ = x'.den ρ) (k : y.den ρ = y'.den ρ) : (ctest e x y).den ρ = (ctest e x' y').den ρ := by
 cases e
 ·rw [Bool.eq_iff_iff]
  show (BE.le x y).den ρ = true ↔ (BE.le x' y').den ρ = true
  rw [d_le, d_le, h, k]
 ·rw [Bool.eq_iff_iff]
  show (BE.eq x y).den ρ = true ↔ (BE.eq x' y').den ρ = true
  rw [d_eq, d_eq, h, k]
theorem ctest_l (e : Bool) (c : BE) (a b y : IE) : (ctest e (.ite c a b) y).den ρ = if c.den ρ then (ctest e a y).den ρ else (ctest e b y).den ρ := by
 by_cases h : c.den ρ = true
 ·rw [if_pos h]; exact ctest_cong e (iteI_t a b h) rfl
 ·rw [if_neg h]; exact ctest_cong e (iteI_f a b h) rfl
theorem ctest_r (e : Bool) (c : BE) (a b x : IE) : (ctest e x (.ite c a b)).den ρ = if c.den ρ then (ctest e x a).den ρ else (ctest e x b).den ρ := by
 by_cases h : c.den ρ = true
 ·rw [if_pos h]; exact ctest_cong e rfl (iteI_t a b h)
 ·rw [if_neg h]; exact ctest_cong e rfl (iteI_f a b h)
theorem cmpB_ok (hρ : ρ.Ok) (hp : Holds ρ pc) (hr : SmpOk ρ r) (e : Bool) (x y : IE) : (cmpB pc r e x y).den ρ = (ctest e x y).den ρ := by
 unfold cmpB
 split
 ·rw [iteB_den, hr.b, hr.b, hr.b, ctest_l]
 ·rw [iteB_den, hr.b, hr.b, hr.b, ctest_r]
 ·rw [tryB_ok hρ hp, mkT_den]
theorem smB_ok (hD : DefsOk F D) (hF : ρ.z.F = F) (hρ : ρ.Ok) (hp : Holds ρ pc) (hr : SmpOk ρ r) (e : BE) : (smB D pc r e).den ρ = e.den ρ := by
 unfold smB
 split
 ·simp only [fIE_eq, cmpB_ok hρ hp hr, ctest, BE.den, hr.i]
 ·simp only [fIE_eq, cmpB_ok hρ hp hr, ctest, BE.den, hr.i]
 ·simp only [mkNot_den, BE.den, hr.b]
 ·rename_i x y
  have := hr.b x
  split
  ·rename_i h
   rw [h] at this
   simp only [BE.den] at this
   simp only [BE.den, ← this, Bool.false_and]
  ·have h2 := hr.b y
   split
   ·rename_i h
    rw [h] at h2
    simp only [BE.den] at h2
    simp only [BE.den, ← h2, Bool.and_false]
   ·simp only [mkAnd_den, BE.den, hr.b]
 ·simp only [mkIff_den, BE.den, hr.b]
 ·rename_i n a
  simp only [fAL_eq, fBE_eq]
  split
  ·rename_i b h
   have := dec_den hρ hp (.fn n (r.a a)) b (by simp only [dec]; exact h)
   simp only [BE.den, hr.a] at this ⊢
   exact this.symm
  ·split
   ·rename_i e h
    rw [hr.b, expB_ok hD hF hρ hp h]
    simp only [BE.den, hr.a]
   ·simp only [BE.den, hr.a]
 ·rw [tryB_ok hρ hp]; simp only [BE.den, hr.l, hr.i]
 ·rw [tryB_ok hρ hp]; simp only [BE.den, hr.l]
 ·exact tryB_ok hρ hp _
theorem smL_ok (hD : DefsOk F D) (hF : ρ.z.F = F) (hρ : ρ.Ok) (hp : Holds ρ pc) (hr : SmpOk ρ r) (e : LE) : (smL D pc r e).den ρ = e.den ρ := by
 unfold smL
 split
 ·simp only [fLE_eq, catN_den, LE.den, hr.l]
 ·simp only [LE.den, hr.a]
 ·simp only [LE.den, hr.a, hr.l, hr.i]
 ·simp only [LE.den, hr.l, hr.i]
 ·rename_i a i
  have hi := hr.i i
  simp only [fIE_eq]
  split
  ·rename_i h
   rw [h] at hi
   simp only [IE.den] at hi
   simp only [LE.den, hr.l, ← hi]
   rfl
  ·simp only [LE.den, hr.l, hi]
 ·simp only [LE.den, hr.a, hr.i]
 ·rename_i n a
  simp only [fAL_eq, fLE_eq]
  split
  ·rename_i e h
   rw [hr.l, expL_ok hD hF hρ hp hr h]
   simp only [LE.den, hr.a]
  ·simp only [LE.den, hr.a]
 ·rfl
theorem smN_ok (hD : DefsOk F D) (hF : ρ.z.F = F) (hρ : ρ.Ok) (hp : Holds ρ pc) : ∀ n, SmpOk ρ (smN D pc n)
 | 0 => ⟨fun _ => rfl, fun _ => rfl, fun _ => rfl, fun _ => rfl⟩
 | n + 1 => by
  have h := smN_ok hD hF hρ hp n
  exact ⟨smI_ok hD hF hρ hp h, smB_ok hD hF hρ hp h, smL_ok hD hF hρ hp h, smA_ok h⟩
end
def isO (o : Option Int) (c : Int) : Bool := match o with
 | some a => ieqb a c
 | none => false
def sharp1 (r : Option Int × Option Int) (c : Int) (x : IE) (acc no : List BE) : List BE := if isO r.1 c then fint (c + 1) fun d => .le (.lit d) x :: acc else if isO r.2 c then fint (c - 1) fun d => .le x (.lit d) :: acc else no
def sharp (pc : List BE) (x y : IE) (acc : List BE) : List BE := match y with
 | .lit c => sharp1 (rng acc x) c x acc (sharp1 (rng pc x) c x acc acc)
 | _ => acc
def fnF (b : Bool) (m : Nat) (a : AL) (acc : List BE) : List BE := match b with
 | true => .fn m a :: acc
 | false => .not (.fn m a) :: acc
def iteC (r : Smp) (e : Bool) (x y : IE) : Option BE := match x, y with
 | .ite c a b, y => some (iteB (r.b c) (r.b (ctest e a y)) (r.b (ctest e b y)))
 | x, .ite c a b => some (iteB (r.b c) (r.b (ctest e x a)) (r.b (ctest e x b)))
 | _, _ => none
def fLe (b : Bool) (x y : IE) (acc : List BE) : List BE := match b with
 | true => leT x y :: acc
 | false => mkNot (leT x y) :: acc
def fEq (pc : List BE) (b : Bool) (x y : IE) (acc : List BE) : List BE := match b with
 | true => mkEq x y :: acc
 | false => sharp pc x y (mkNot (mkEq x y) :: acc)
def opn (D : Defs) (pc : List BE) (r : Smp) : Nat → Bool → BE → List BE → List BE
 | 0, true, p, acc => p :: acc
 | 0, false, p, acc => .not p :: acc
 | n + 1, b, .not x, acc => opn D pc r n (!b) x acc
 | n + 1, true, .and x y, acc => opn D pc r n true x (opn D pc r n true y acc)
 | n + 1, false, .and x y, acc => (match r.b x with
  | .lit true => opn D pc r n false y acc
  | .lit false => acc
  | x' => (match r.b y with
   | .lit true => opn D pc r n false x acc
   | .lit false => acc
   | y' => .not (.and x' y') :: acc))
 | n + 1, b, .iff x y, acc => (match r.b x with
  | .lit true => opn D pc r n b y acc
  | .lit false => opn D pc r n (!b) y acc
  | x' => (match r.b y with
   | .lit true => opn D pc r n b x acc
   | .lit false => opn D pc r n (!b) x acc
   | y' => (match b with
    | true => .iff x' y' :: acc
    | false => .not (.iff x' y') :: acc)))
 | n + 1, b, .fn m a, acc => (match expB D pc m (r.a a) with
  | some e => opn D pc r n b e (fnF b m (r.a a) acc)
  | none => fnF b m (r.a a) acc)
 | n + 1, b, .le x y, acc => fIE (r.i x) fun x => fIE (r.i y) fun y => (match iteC r false x y with
  | some c => opn D pc r n b c acc
  | none => fLe b x y acc)
 | n + 1, b, .eq x y, acc => fIE (r.i x) fun x => fIE (r.i y) fun y => (match iteC r true x y with
  | some c => opn D pc r n b c acc
  | none => fEq pc b x y acc)
 | n + 1, true, .cel l i j, acc => .cel (r.l l) (r.i i) j :: acc
 | n + 1, false, .cel l i j, acc => .not (.cel (r.l l) (r.i i) j) :: acc
 | n + 1, true, .leq x y, acc => .leq (r.l x) (r.l y) :: acc
 | n + 1, false, .leq x y, acc => .not (.leq (r.l x) (r.l y)) :: acc
 | n + 1, true, p, acc => p :: acc
 | n + 1, false, p, acc => mkNot p :: acc
def opnL (D : Defs) (pc : List BE) (r : Smp) (n : Nat) : List BE → List BE
 | [] => []
 | p :: l => opn D pc r n true p (opnL D pc r n l)
def gtO : Option Int → Option Int → Bool
 | some a, some b => if ileb a b then false else true
 | _, _ => false
def memB (c : BE) : List BE → Bool
 | [] => false
 | p :: l => if p.beq c then true else memB c l
def cl1 (pc : List BE) : BE → Bool
 | .lit b => (match b with
  | true => false
  | false => true)
 | .le x y => gtO (rng pc x).1 (rng pc y).2
 | .eq x y => if gtO (rng pc x).1 (rng pc y).2 then true else gtO (rng pc y).1 (rng pc x).2
 | .not (.le x y) => (match leR (rng pc x) (rng pc y) with
  | some true => true
  | _ => memB (.le x y) pc)
 | .not (.eq x y) => (match eqR (rng pc x) (rng pc y) with
  | some true => true
  | _ => if x.beq y then true else memB (.eq x y) pc)
 | .not q => memB q pc
 | _ => false
def clashR (pc : List BE) : List BE → Bool
 | [] => false
 | p :: l => if cl1 pc p then true else clashR pc l
def allIn (ts : List IE) : List IE → Bool
 | [] => true
 | e :: l => if memA e ts then allIn ts l else false
def clashF (pc : List BE) : List IE → List BE → Bool
 | _, [] => false
 | old, p :: l => (match factAtoms p [] with
  | a :: b :: q => if allIn old (a :: b :: q) then clashF pc old l else
   fL (growA (growA (growA (a :: b :: q) pc) pc) pc) fun ts => if fmGo ts.length (bounds pc ts ts (consAll ts pc [])) then true else fL (addAs old ts) fun old => clashF pc old l
  | _ => clashF pc old l)
def clash (pc : List BE) : Bool := if clashR pc pc then true else clashF pc [] pc
def goalD (r : Smp) (pc : List BE) : G → Bool
 | .i a b => fIE (r.i a) fun a => fIE (r.i b) fun b => (if a.beq b then true else (match dec pc (mkEq a b) with
  | some true => true
  | _ => false))
 | .b a b => (match gB pc (r.b a) (r.b b) with
  | [] => true
  | _ => false)
 | .l a b => (r.l a).beq (r.l b)
def openI (pc : List BE) : IE → Option BE
 | .ite c x y => (match dec pc c with
  | none => some (atom pc c)
  | _ => (match openI pc x with
   | some b => some b
   | none => openI pc y))
 | .add x y => (match openI pc x with
  | some b => some b
  | none => openI pc y)
 | .sub x y => (match openI pc x with
  | some b => some b
  | none => openI pc y)
 | _ => none
def openB (pc : List BE) : BE → Option BE
 | .lit _ => none
 | c => (match dec pc c with
  | none => some (atom pc c)
  | _ => none)
def openG (r : Smp) (pc : List BE) : G → Option BE
 | .i a b => (match openI pc (r.i a) with
  | some c => some c
  | none => openI pc (r.i b))
 | .b a b => (match openB pc (r.b a) with
  | some c => some c
  | none => openB pc (r.b b))
 | .l _ _ => none
def noFM : List BE → List BE
 | [] => []
 | .lit true :: l => noFM l
 | p :: l => p :: noFM l
def headIn (ns : List Nat) : IE → Bool
 | .fn _ n _ => memN n ns
 | _ => false
def slim (ns : List Nat) : List BE → List BE
 | [] => []
 | .le x y :: l => if headIn ns x then slim ns l else if headIn ns y then slim ns l else .le x y :: slim ns l
 | p :: l => p :: slim ns l
def fPc {β : Type} : List BE → (List BE → β) → β
 | [], k => k []
 | p :: l, k => fPc l fun l => fBE p fun p => k (p :: l)
def noDefs : Defs := ⟨[], [], [], []⟩
def rounds (D E : Defs) (n : Nat) : Nat → List BE → List BE
 | 0, pc => pc
 | m + 1, pc => fPc (opnL E pc (smN D pc n) n pc) fun pc' => rounds D noDefs n m pc'
def openF (pc : List BE) : List BE → Option BE
 | [] => none
 | .not (.and x y) :: l => (match openB pc x with
  | some c => some c
  | none => (match openB pc y with
   | some c => some c
   | none => openF pc l))
 | _ :: l => openF pc l
def orO (a b : Option BE) : Option BE := match a with
 | some c => some c
 | none => b
def goalN (D : Defs) (q : Nat) : Nat → List BE → G → Bool
 | 0, pc, g => goalD (smN D pc q) pc g
 | n + 1, pc, g => if goalD (smN D pc q) pc g then true else if clashR pc pc then true else (match orO (openG (smN D pc q) pc g) (openF pc pc) with
  | some c => fBE c fun c => if fPc (rounds D noDefs q 1 (c :: pc)) fun p1 => goalN D q n p1 g then fPc (rounds D noDefs q 1 (mkNot c :: pc)) fun p2 => goalN D q n p2 g else false
  | none => false)
def goalsD (D : Defs) (q n : Nat) (pc : List BE) : List G → Bool
 | [] => true
 | g :: l => if goalN D q n pc g then goalsD D q n pc l else false
def wayD (D : Defs) (n m k : Nat) (pc : List BE) (gs : List G) : Bool :=
 match gs with
 | [] => true
 | gs => fPc (rounds D D n m (slim D.cut (noFM pc))) fun p1 => if goalsD D n 0 p1 gs then true else if clashR p1 p1 then true else if goalsD D n k p1 gs then true else
  fPc (rounds D noDefs n 1 (.lit true :: p1)) fun p2 => if goalsD D n 0 p2 gs then true else if clash p2 then true else goalsD D n k p2 gs
section
variable {F : Fns} {D : Defs} {ρ : Rho} {pc : List BE} {r : Smp}
theorem sharp1_ok {x : IE} {c : Int} {rg : Option Int × Option Int} (hw : Within (x.den ρ) rg) {acc no : List BE} (h : ¬ x.den ρ = c) (ha : Holds ρ acc) (hn : Holds ρ no) : Holds ρ (sharp1 rg c x acc no) := by
 unfold sharp1
 have is : ∀ {o : Option Int}, isO o c = true → o = some c := fun {o} hi => by
  unfold isO at hi
  split at hi
  ·rw [(ieqb_iff _ _).1 hi]
  ·cases hi
 split
 ·rename_i hi
  rw [fint_eq]
  have := hw.1 _ (is hi)
  refine ha.cons ?_
  rw [d_le]
  simp only [IE.den]
  omega
 ·split
  ·rename_i hi
   rw [fint_eq]
   have := hw.2 _ (is hi)
   refine ha.cons ?_
   rw [d_le]
   simp only [IE.den]
   omega
  ·exact hn
theorem sharp_ok (hρ : ρ.Ok) (hp : Holds ρ pc) {x y : IE} {acc : List BE} (h : ¬ x.den ρ = y.den ρ) (ha : Holds ρ acc) : Holds ρ (sharp pc x y acc) := by
 unfold sharp
 split
 ·rename_i c
  simp only [IE.den] at h
  exact sharp1_ok (rng_in hρ ha x) h ha (sharp1_ok (rng_in hρ hp x) h ha ha)
 ·exact ha
theorem iteC_ok (hr : SmpOk ρ r) {e : Bool} {x y : IE} {c : BE} (h : iteC r e x y = some c) : c.den ρ = (ctest e x y).den ρ := by
 unfold iteC at h
 split at h
 ·cases h; rw [iteB_den, hr.b, hr.b, hr.b, ctest_l]
 ·cases h; rw [iteB_den, hr.b, hr.b, hr.b, ctest_r]
 ·cases h
theorem opn_ok (hD : DefsOk F D) (hF : ρ.z.F = F) (hρ : ρ.Ok) (hp : Holds ρ pc) (hr : SmpOk ρ r) : ∀ (n : Nat) (b : Bool) (p : BE) (acc : List BE), p.den ρ = b → Holds ρ acc → Holds ρ (opn D pc r n b p acc) := by
  intro n
  induction n with
  | zero =>
    intro b p acc h ha
    cases b
    · exact ha.cons (by simp [BE.den, h])
    · exact ha.cons h
  | succ n ih =>
    intro b p acc h ha
    cases p with
    | lit x => cases b <;> simp only [opn] <;> exact ha.cons (by simp_all [mkNot, BE.den])
    | var x => cases b <;> simp only [opn] <;> exact ha.cons (by simp_all [mkNot, BE.den])
    | rnil x => cases b <;> simp only [opn] <;> exact ha.cons (by simp_all [mkNot, BE.den])
    | le x y =>
      have h2 : (ctest false (r.i x) (r.i y)).den ρ = b := by
        simp only [ctest, BE.den, hr.i]
        simpa only [BE.den] using h
      have go : Holds ρ (match iteC r false (r.i x) (r.i y) with
        | some c => opn D pc r n b c acc
        | none => fLe b (r.i x) (r.i y) acc) := by
        split
        · rename_i c hc
          exact ih _ _ _ ((iteC_ok hr hc).trans h2) ha
        · cases b
          · exact ha.cons (by rw [mkNot_den, leT_den]; simp only [ctest, BE.den] at h2; rw [h2]; rfl)
          · exact ha.cons (by rw [leT_den]; simpa only [ctest, BE.den] using h2)
      cases b <;> simpa only [opn, fIE_eq] using go
    | eq x y =>
      have h2 : (ctest true (r.i x) (r.i y)).den ρ = b := by
        simp only [ctest, BE.den, hr.i]
        simpa only [BE.den] using h
      have go : Holds ρ (match iteC r true (r.i x) (r.i y) with
        | some c => opn D pc r n b c acc
        | none => fEq pc b (r.i x) (r.i y) acc) := by
        split
        · rename_i c hc
          exact ih _ _ _ ((iteC_ok hr hc).trans h2) ha
        · simp only [ctest, BE.den] at h2
          cases b
          · have h' : ¬ (r.i x).den ρ = (r.i y).den ρ := by simpa using h2
            exact sharp_ok hρ hp h' (ha.cons (by rw [mkNot_den, mkEq_den]; simp [h']))
          · exact ha.cons (by rw [mkEq_den]; exact h2)
      cases b <;> simpa only [opn, fIE_eq] using go
    | not x =>
      have h' : x.den ρ = !b := by
        simp only [BE.den] at h
        rw [← h, Bool.not_not]
      cases b <;> exact ih _ x acc h' ha
    | and x y =>
      cases b
      · have hx := hr.b x
        have hy := hr.b y
        simp only [BE.den] at h
        simp only [opn]
        split
        · rename_i e
          rw [e] at hx
          simp only [BE.den] at hx
          exact ih _ _ _ (by simpa [← hx] using h) ha
        · exact ha
        · split
          · rename_i e
            rw [e] at hy
            simp only [BE.den] at hy
            exact ih _ _ _ (by simpa [← hy] using h) ha
          · exact ha
          · exact ha.cons (by simp only [BE.den, hx, hy, h, Bool.not_false])
      · simp only [BE.den, Bool.and_eq_true] at h
        exact ih _ _ _ h.1 (ih _ _ _ h.2 ha)
    | iff x y =>
      have hx := hr.b x
      have hy := hr.b y
      have h' : (x.den ρ == y.den ρ) = b := by simpa only [BE.den] using h
      have go : Holds ρ (match r.b x with
        | .lit true => opn D pc r n b y acc
        | .lit false => opn D pc r n (!b) y acc
        | x' => (match r.b y with
          | .lit true => opn D pc r n b x acc
          | .lit false => opn D pc r n (!b) x acc
          | y' => (match b with
            | true => .iff x' y' :: acc
            | false => .not (.iff x' y') :: acc))) := by
        split
        · rename_i e
          rw [e] at hx
          simp only [BE.den] at hx
          exact ih _ _ _ (by rw [← h', ← hx]; simp) ha
        · rename_i e
          rw [e] at hx
          simp only [BE.den] at hx
          exact ih _ _ _ (by rw [← h', ← hx]; simp) ha
        · split
          · rename_i e
            rw [e] at hy
            simp only [BE.den] at hy
            exact ih _ _ _ (by rw [← h', ← hy]; simp) ha
          · rename_i e
            rw [e] at hy
            simp only [BE.den] at hy
            exact ih _ _ _ (by rw [← h', ← hy]; simp) ha
          · cases b
            · exact ha.cons (by simp only [BE.den, hx, hy, h', Bool.not_false])
            · exact ha.cons (by simp only [BE.den, hx, hy, h'])
      cases b <;> exact go
    | cel l i j =>
      cases b <;> simp only [opn] <;> exact ha.cons (by simpa only [BE.den, hr.i, hr.l, Bool.not_eq_true', Bool.not_eq_eq_eq_not, Bool.not_true] using h)
    | leq x y =>
      cases b <;> simp only [opn] <;> exact ha.cons (by simpa only [BE.den, hr.l, Bool.not_eq_true', Bool.not_eq_eq_eq_not, Bool.not_true] using h)
    | fn m a =>
      have hf : Holds ρ (fnF b m (r.a a) acc) := by
        cases b
        · exact ha.cons (by simpa only [BE.den, hr.a, Bool.not_eq_true', Bool.not_eq_eq_eq_not, Bool.not_true] using h)
        · exact ha.cons (by simpa only [BE.den, hr.a] using h)
      have go : Holds ρ (match expB D pc m (r.a a) with
        | some e => opn D pc r n b e (fnF b m (r.a a) acc)
        | none => fnF b m (r.a a) acc) := by
        split
        · rename_i e he
          refine ih _ _ _ ?_ hf
          rw [expB_ok hD hF hρ hp he, ← h]
          simp only [BE.den, hr.a]
        · exact hf
      cases b <;> exact go
theorem opnL_ok (hD : DefsOk F D) (hF : ρ.z.F = F) (hρ : ρ.Ok) (hp : Holds ρ pc) (hr : SmpOk ρ r) (n : Nat) : ∀ l : List BE, Holds ρ l → Holds ρ (opnL D pc r n l)
 | [], _ => fun p h => by cases h
 | p :: l, h => opn_ok hD hF hρ hp hr n true p _ h.head (opnL_ok hD hF hρ hp hr n l h.tail)
theorem gtO_ok {a b : Option Int} (h : gtO a b = true) : ∃ x y, a = some x ∧ b = some y ∧ y < x := by
 unfold gtO at h
 split at h
 ·rename_i x y
  split at h
  ·cases h
  ·rename_i hh
   refine ⟨x, y, rfl, rfl, ?_⟩
   rw [ileb_iff] at hh
   omega
 ·cases h
theorem memB_ok {c : BE} : ∀ {l : List BE}, memB c l = true → Holds ρ l → c.den ρ = true
 | [], h, _ => by cases h
 | p :: l, h, hp => by
  simp only [memB] at h
  split at h
  ·rename_i e
   rw [← BE.beq_eq _ _ e]; exact hp.head
  ·exact memB_ok h hp.tail
theorem cl1_ok (hρ : ρ.Ok) (hp : Holds ρ pc) {p : BE} (h : cl1 pc p = true) : ¬ p.den ρ = true := by
 unfold cl1 at h
 split at h
 ·split at h
  ·cases h
  ·simp [BE.den]
 ·rename_i x y
  obtain ⟨a, b, h1, h2, h3⟩ := gtO_ok h
  have e1 := (rng_in hρ hp x).1 _ h1
  have e2 := (rng_in hρ hp y).2 _ h2
  rw [d_le]; omega
 ·rename_i x y
  rw [d_eq]
  split at h
  ·rename_i hh
   obtain ⟨a, b, h1, h2, h3⟩ := gtO_ok hh
   have e1 := (rng_in hρ hp x).1 _ h1
   have e2 := (rng_in hρ hp y).2 _ h2
   omega
  ·obtain ⟨a, b, h1, h2, h3⟩ := gtO_ok h
   have e1 := (rng_in hρ hp y).1 _ h1
   have e2 := (rng_in hρ hp x).2 _ h2
   omega
 ·rename_i x y
  rw [d_not, Classical.not_not]
  split at h
  ·rename_i hh
   have := leR_den (rng_in hρ hp x) (rng_in hρ hp y) _ hh
   rw [d_le]; exact of_decide_eq_true this
  ·exact memB_ok h hp
 ·rename_i x y
  rw [d_not, Classical.not_not]
  split at h
  ·rename_i hh
   have := eqR_den (rng_in hρ hp x) (rng_in hρ hp y) _ hh
   rw [d_eq]; exact of_decide_eq_true this
  ·split at h
   ·rename_i e
    rw [d_eq, IE.beq_eq _ _ e]
   ·exact memB_ok h hp
 ·rw [d_not, Classical.not_not]
  exact memB_ok h hp
 ·cases h
theorem clashR_ok (hρ : ρ.Ok) (hp : Holds ρ pc) : ∀ {l : List BE}, Holds ρ l → clashR pc l = true → False
 | [], _, h => by cases h
 | p :: l, hl, h => by
  simp only [clashR] at h
  split at h
  ·rename_i h1; exact cl1_ok hρ hp h1 hl.head
  ·exact clashR_ok hρ hp hl.tail h
theorem clashF_ok (hρ : ρ.Ok) (hp : Holds ρ pc) : ∀ {l : List BE} {old : List IE}, clashF pc old l = true → False
 | [], old, h => by cases h
 | p :: l, old, h => by
  simp only [clashF] at h
  split at h
  ·split at h
   ·exact clashF_ok hρ hp h
   ·simp only [fL_eq] at h
    split at h
    ·rename_i h1
     exact fmGo_ok _ _ _ (bounds_ok hρ hp _ _ _ (consAll_ok _ pc [] hp (.nil _))) h1
    ·exact clashF_ok hρ hp h
  ·exact clashF_ok hρ hp h
theorem clash_ok (hρ : ρ.Ok) (hp : Holds ρ pc) (h : clash pc = true) : False := by
 unfold clash at h
 split at h
 ·rename_i h1; exact clashR_ok hρ hp hp h1
 ·exact clashF_ok hρ hp h
theorem goalD_ok (hρ : ρ.Ok) (hp : Holds ρ pc) (hr : SmpOk ρ r) {g : G} (h : goalD r pc g = true) : g.den ρ := by
 unfold goalD at h
 split at h
 ·rename_i a b
  simp only [fIE_eq] at h
  show a.den ρ = b.den ρ
  rw [← hr.i a, ← hr.i b]
  split at h
  ·rename_i e; rw [IE.beq_eq _ _ e]
  ·split at h
   ·rename_i e; exact dec_eq hρ hp e
   ·cases h
 ·rename_i a b
  split at h
  ·rename_i e
   show a.den ρ = b.den ρ
   rw [← hr.b a, ← hr.b b]
   exact gB_ok hρ hp (fun g hg => by rw [e] at hg; cases hg)
  ·cases h
 ·rename_i a b
  show a.den ρ = b.den ρ
  rw [← hr.l a, ← hr.l b, LE.beq_eq _ _ h]
theorem noFM_ok : ∀ {l : List BE}, Holds ρ l → Holds ρ (noFM l)
 | [], h => h
 | p :: l, h => by
  have ih := noFM_ok h.tail
  unfold noFM
  split
  ·exact fun p hp => by cases hp
  ·rename_i e; cases e; exact ih
  ·rename_i e; cases e; exact ih.cons h.head
theorem slim_ok (ns : List Nat) : ∀ {l : List BE}, Holds ρ l → Holds ρ (slim ns l)
 | [], h => h
 | p :: l, h => by
  have ih := slim_ok ns h.tail
  unfold slim
  split
  ·exact fun p hp => by cases hp
  ·rename_i e
   cases e
   split
   ·exact ih
   ·split
    ·exact ih
    ·exact ih.cons h.head
  ·rename_i e; cases e; exact ih.cons h.head
theorem fPc_ok {β : Type} {φ : β → Prop} : ∀ {l : List BE} {k : List BE → β}, Holds ρ l → φ (fPc l k) → ∃ l', Holds ρ l' ∧ φ (k l')
 | [], k, hl, h => ⟨[], hl, h⟩
 | p :: l, k, hl, h => by
  simp only [fPc] at h
  obtain ⟨l', h1, h2⟩ := fPc_ok hl.tail h
  rw [fBE_eq] at h2
  exact ⟨p :: l', h1.cons hl.head, h2⟩
theorem no_ok : DefsOk F noDefs := ⟨fun n k p e h => by simp [noDefs, lk] at h, fun n p e h => by simp [noDefs, lk] at h, fun n p cs h => by simp [noDefs, lk] at h⟩
theorem rounds_ok {E : Defs} (hD : DefsOk F D) (hE : DefsOk F E) (hF : ρ.z.F = F) (hρ : ρ.Ok) (n : Nat) : ∀ (m : Nat) {pc : List BE}, Holds ρ pc → Holds ρ (rounds D E n m pc)
 | 0, pc, h => h
 | m + 1, pc, h => by
  have h0 := opnL_ok hE hF hρ h (smN_ok hD hF hρ h n) n pc h
  obtain ⟨l', h1, h2⟩ := fPc_ok (φ := fun x => x = rounds D E n (m + 1) pc) (k := fun pc' => rounds D noDefs n m pc') h0 (by simp only [rounds])
  rw [← h2]
  exact rounds_ok hD no_ok hF hρ n m h1
theorem goalN_ok (hD : DefsOk F D) (hF : ρ.z.F = F) (hρ : ρ.Ok) {q : Nat} {g : G} : ∀ {n : Nat} {pc : List BE}, Holds ρ pc → goalN D q n pc g = true → g.den ρ
 | 0, pc, hp, h => goalD_ok hρ hp (smN_ok hD hF hρ hp q) h
 | n + 1, pc, hp, h => by
  unfold goalN at h
  split at h
  ·rename_i h1; exact goalD_ok hρ hp (smN_ok hD hF hρ hp q) h1
  ·split at h
   ·rename_i h1; exact (clashR_ok hρ hp hp h1).elim
   ·split at h
    ·rename_i c _
     rw [fBE_eq] at h
     obtain ⟨h1, h2⟩ := ifb h
     cases e : c.den ρ with
     | true =>
      obtain ⟨p1, k1, k2⟩ := fPc_ok (φ := fun x => x = true) (rounds_ok hD no_ok hF hρ q 1 (hp.cons e)) h1
      exact goalN_ok hD hF hρ k1 k2
     | false =>
      obtain ⟨p1, k1, k2⟩ := fPc_ok (φ := fun x => x = true) (rounds_ok hD no_ok hF hρ q 1 (hp.cons (p := mkNot c) (by rw [mkNot_den, e]; rfl))) h2
      exact goalN_ok hD hF hρ k1 k2
    ·cases h
theorem goalsD_ok (hD : DefsOk F D) (hF : ρ.z.F = F) (hρ : ρ.Ok) (hp : Holds ρ pc) {q n : Nat} : ∀ {gs : List G}, goalsD D q n pc gs = true → ∀ g ∈ gs, g.den ρ
 | [], _, g, hg => by cases hg
 | x :: l, h, g, hg => by
  obtain ⟨h1, h2⟩ := ifb h
  rcases List.mem_cons.1 hg with rfl | hg
  ·exact goalN_ok hD hF hρ hp h1
  ·exact goalsD_ok hD hF hρ hp h2 g hg
theorem wayD_ok (hD : DefsOk F D) (hF : ρ.z.F = F) (hρ : ρ.Ok) (hp : Holds ρ pc) {n m k : Nat} {gs : List G} (h : wayD D n m k pc gs = true) : ∀ g ∈ gs, g.den ρ := by
 unfold wayD at h
 split at h
 ·intro g hg; cases hg
 ·obtain ⟨p1, h1, h⟩ := fPc_ok (φ := fun x => x = true) (rounds_ok hD hD hF hρ n m (slim_ok D.cut (noFM_ok hp))) h
  split at h
  ·rename_i q
   exact goalsD_ok hD hF hρ h1 q
  ·split at h
   ·rename_i q
    exact (clashR_ok hρ h1 h1 q).elim
   split at h
   ·rename_i q
    exact goalsD_ok hD hF hρ h1 q
   ·obtain ⟨p2, h2, h⟩ := fPc_ok (φ := fun x => x = true) (rounds_ok hD no_ok hF hρ n 1 (h1.cons (p := .lit true) (by simp only [BE.den]))) h
    split at h
    ·rename_i q
     exact goalsD_ok hD hF hρ h2 q
    ·split at h
     ·rename_i q
      exact (clash_ok hρ h2 q).elim
     ·exact goalsD_ok hD hF hρ h2 h
end
def viewD (D : Defs) (n m k : Nat) (lg : LG) (v : View) : Bool := match v with
 | .done l => wayD D n m k (.lit true :: l.pc) ((lg l).getD [.b (.lit true) (.lit false)])
 | _ => false
def allD (D : Defs) (n m k : Nat) (lg : LG) : List View → Bool
 | [] => true
 | v :: l => if viewD D n m k lg v then allD D n m k lg l else false
def autoOkD (D : Defs) (q m k : Nat) (F : Fns) (c : Ctr) (cs : List Ctr) (ms : List Mtr) (n : Nat) : Bool :=
 match seg (TM F c.roms cs ms) [] n [(0, startF c.f c.pat (.lit true :: c.pre))] (startF c.f c.pat (.lit true :: c.pre)) with
 | .ok l => allD D q m k (leafG c.roms c) l
 | .fail _ _ => false
def pieceD (D : Defs) (q m k : Nat) (F : Fns) (c : Ctr) (cs : List Ctr) (ms : List Mtr) (n s i : Nat) : Bool :=
 match seg (TM F c.roms cs ms) [] n [(0, startF c.f c.pat (.lit true :: c.pre))] (startF c.f c.pat (.lit true :: c.pre)) with
 | .ok l => allD D q m k (leafG c.roms c) ((l.drop (s * i)).take s)
 | .fail _ _ => false
def endD (F : Fns) (c : Ctr) (cs : List Ctr) (ms : List Mtr) (n s : Nat) : Bool :=
 match seg (TM F c.roms cs ms) [] n [(0, startF c.f c.pat (.lit true :: c.pre))] (startF c.f c.pat (.lit true :: c.pre)) with
 | .ok l => (match l.drop s with
  | [] => true
  | _ => false)
 | .fail _ _ => false
theorem allD_app {D : Defs} {q m k : Nat} {lg : LG} : ∀ {a b : List View}, allD D q m k lg a = true → allD D q m k lg b = true → allD D q m k lg (a ++ b) = true
 | [], b, _, h => h
 | v :: a, b, h, h2 => by
  obtain ⟨h1, h3⟩ := ifb h
  show (if viewD D q m k lg v then allD D q m k lg (a ++ b) else false) = true
  rw [h1, allD_app h3 h2]; rfl
theorem pieces_ok {D : Defs} {q m k : Nat} {F : Fns} {c : Ctr} {cs : List Ctr} {ms : List Mtr} {n s p : Nat} (h : ∀ i, i < p → pieceD D q m k F c cs ms n s i = true) (he : endD F c cs ms n (s * p) = true) : autoOkD D q m k F c cs ms n = true := by
  unfold autoOkD
  unfold endD at he
  unfold pieceD at h
  split
  · rename_i l hl
    rw [hl] at he h
    simp only [] at he h
    have key : ∀ i, i ≤ p → allD D q m k (leafG c.roms c) (l.take (s * i)) = true := by
      intro i
      induction i with
      | zero => intro _; rw [Nat.mul_zero, List.take_zero]; rfl
      | succ i ih =>
        intro hi
        rw [Nat.mul_succ, List.take_add]
        exact allD_app (ih (by omega)) (h i (by omega))
    have hd : l.drop (s * p) = [] := by
      split at he
      · assumption
      · cases he
    have := key p (Nat.le_refl _)
    rwa [List.take_of_length_le (List.drop_eq_nil_iff.1 hd)] at this
  · rename_i e
    rw [e] at he
    cases he
theorem allD_ok {D : Defs} {q m k : Nat} {lg : LG} {tm : List (Nat × Cfg)} : ∀ {l : List View}, allD D q m k lg l = true → codesL l = [] ∧ codesR tm l = [] ∧ ∀ v ∈ stripL lg l, ∃ pc gs, v = .done pc (some gs) ∧ wayD D q m k (.lit true :: pc) gs = true
 | [], _ => ⟨rfl, rfl, (fun v h => by cases h)⟩
 | v :: l, h => by
  obtain ⟨h1, h2⟩ := ifb h
  obtain ⟨a, b, d⟩ := allD_ok (tm := tm) h2
  cases v with
  | done lf =>
   refine ⟨a, b, fun v hv => ?_⟩
   rcases List.mem_cons.1 hv with rfl | hv
   ·exact ⟨_, _, rfl, h1⟩
   ·exact d v hv
  | cut _ pc S X => cases h1
  | bad _ w S C => cases h1
theorem told_autoDM {F : Fns} {D : Defs} (hD : DefsOk F D) {c : Ctr} {cs : List Ctr} {ms' : List Mtr} (hcs : ∀ d ∈ cs, Told F d) (hms : ∀ d ∈ ms', MTold F d) (q m k n : Nat) (hb : bodyB c.f = true) (hflat : ctrFlat c = true) (hnames : ctrNames c = true) (hpost : PostOk F c) (hok : cfgOk (startF c.f c.pat (.lit true :: c.pre)) = true) (h : autoOkD D q m k F c cs ms' n = true) : Told F c := by
 unfold autoOkD at h
 split at h
 ·rename_i l hl
  obtain ⟨a, b, d⟩ := allD_ok (tm := [(0, startF c.f c.pat (.lit true :: c.pre))]) h
  have e0 : ∀ k C, lk [(0, startF c.f c.pat (.lit true :: c.pre))] k = some C → C = startF c.f c.pat (.lit true :: c.pre) := by
   intro k C hk
   rw [lk_cons, lk_nil] at hk
   split at hk
   ·cases hk; rfl
   ·cases hk
  refine told_ofM hcs hms (sel := []) n [(0, startF c.f c.pat (.lit true :: c.pre))] (fun _ _ => True) (fun _ _ => 0) (fun _ => stripL (leafG c.roms c) l) 0 hb hflat hnames hpost (fun k C hk => by rw [e0 k C hk]; exact hok) (fun k C hk => ?_) (fun k C hk v hv => ?_) (by rw [lk_cons, if_pos rfl]) (fun ρ _ hp => hp.cons (p := .lit true) (by simp only [BE.den])) (fun _ _ _ _ => trivial) (fun k C hk ρ _ _ => by rw [e0 k C hk, flat_start hflat]; exact fun p hp => by cases hp)
  ·rw [e0 k C hk, hl]
   show (true, codesL l, stripL (leafG c.roms c) l) = (true, codesR _ l, stripL (leafG c.roms c) l)
   rw [a, b]
  ·obtain ⟨pc, gs, rfl, hw⟩ := d v hv
   intro ρ kn _ hp
   exact wayD_ok hD kn.F kn.ok (hp.cons (p := .lit true) (by simp only [BE.den])) hw
 ·cases h
end
end Go.Proofs.Ythenenacmiiphaa.Sx
namespace Go.Proofs.Ythenenacmiiphaa.Sx
open Go
noncomputable section
def subB : List BE → List BE → Bool
 | [], _ => true
 | c :: cs, pc => if memB c pc then subB cs pc else false
def refB : List (List BE) → List BE → Bool
 | [], _ => false
 | cs :: l, pc => if subB cs pc then true else refB l pc
def viewR (refs : List (List BE)) (lg : LG) (v : View) : Bool := match v with
 | .done l => (match (lg l).getD [.b (.lit true) (.lit false)] with
  | [] => true
  | _ => refB refs l.pc)
 | _ => false
def allR (refs : List (List BE)) (lg : LG) : List View → Bool
 | [] => true
 | v :: l => if viewR refs lg v then allR refs lg l else false
def autoOkR (refs : List (List BE)) (F : Fns) (c : Ctr) (cs : List Ctr) (ms : List Mtr) (n : Nat) : Bool :=
 match seg (TM F c.roms cs ms) [] n [(0, startF c.f c.pat (.lit true :: c.pre))] (startF c.f c.pat (.lit true :: c.pre)) with
 | .ok l => allR refs (leafG c.roms c) l
 | .fail _ _ => false
def badR (refs : List (List BE)) (lg : LG) : List View → List (List BE)
 | [] => []
 | v :: l => if viewR refs lg v then badR refs lg l else (match v with
  | .done lf => lf.pc
  | _ => []) :: badR refs lg l
theorem subB_ok {ρ : Rho} : ∀ {cs pc : List BE}, subB cs pc = true → Holds ρ pc → Holds ρ cs
 | [], _, _, _ => fun p h => by cases h
 | c :: cs, pc, h, hp => by
  simp only [subB] at h
  split at h
  ·rename_i e
   exact (subB_ok h hp).cons (memB_ok e hp)
  ·cases h
theorem refB_ok {ρ : Rho} {refs : List (List BE)} (hR : ∀ cs ∈ refs, Holds ρ cs → False) : ∀ {l : List (List BE)} {pc : List BE}, (∀ cs ∈ l, cs ∈ refs) → refB l pc = true → Holds ρ pc → False
 | [], _, _, h, _ => by cases h
 | cs :: l, pc, hs, h, hp => by
  simp only [refB] at h
  split at h
  ·rename_i e; exact hR cs (hs cs (List.mem_cons_self ..)) (subB_ok e hp)
  ·exact refB_ok hR (fun x hx => hs x (List.mem_cons_of_mem _ hx)) h hp
theorem allR_ok {refs : List (List BE)} {lg : LG} {tm : List (Nat × Cfg)} : ∀ {l : List View}, allR refs lg l = true → codesL l = [] ∧ codesR tm l = [] ∧ ∀ v ∈ stripL lg l, ∃ pc gs, v = .done pc (some gs) ∧ (gs = [] ∨ refB refs pc = true)
 | [], _ => ⟨rfl, rfl, (fun v h => by cases h)⟩
 | v :: l, h => by
  obtain ⟨h1, h2⟩ := ifb h
  obtain ⟨a, b, d⟩ := allR_ok (tm := tm) h2
  cases v with
  | done lf =>
   refine ⟨a, b, fun v hv => ?_⟩
   rcases List.mem_cons.1 hv with rfl | hv
   ·refine ⟨_, _, rfl, ?_⟩
    simp only [viewR] at h1
    split at h1
    ·rename_i e; exact .inl e
    ·exact .inr h1
   ·exact d v hv
  | cut _ pc S X => cases h1
  | bad _ w S C => cases h1
theorem told_autoRM {F : Fns} {refs : List (List BE)} (hR : ∀ cs ∈ refs, ∀ ρ : Rho, ρ.Ok → ρ.z.F = F → Holds ρ cs → False) {c : Ctr} {cs : List Ctr} {ms' : List Mtr} (hcs : ∀ d ∈ cs, Told F d) (hms : ∀ d ∈ ms', MTold F d) (n : Nat) (hb : bodyB c.f = true) (hflat : ctrFlat c = true) (hnames : ctrNames c = true) (hpost : PostOk F c) (hok : cfgOk (startF c.f c.pat (.lit true :: c.pre)) = true) (h : autoOkR refs F c cs ms' n = true) : Told F c := by
 unfold autoOkR at h
 split at h
 ·rename_i l hl
  obtain ⟨a, b, d⟩ := allR_ok (tm := [(0, startF c.f c.pat (.lit true :: c.pre))]) h
  have e0 : ∀ k C, lk [(0, startF c.f c.pat (.lit true :: c.pre))] k = some C → C = startF c.f c.pat (.lit true :: c.pre) := by
   intro k C hk
   rw [lk_cons, lk_nil] at hk
   split at hk
   ·cases hk; rfl
   ·cases hk
  refine told_ofM hcs hms (sel := []) n [(0, startF c.f c.pat (.lit true :: c.pre))] (fun _ _ => True) (fun _ _ => 0) (fun _ => stripL (leafG c.roms c) l) 0 hb hflat hnames hpost (fun k C hk => by rw [e0 k C hk]; exact hok) (fun k C hk => ?_) (fun k C hk v hv => ?_) (by rw [lk_cons, if_pos rfl]) (fun ρ _ hp => hp.cons (p := .lit true) (by simp only [BE.den])) (fun _ _ _ _ => trivial) (fun k C hk ρ _ _ => by rw [e0 k C hk, flat_start hflat]; exact fun p hp => by cases hp)
  ·rw [e0 k C hk, hl]
   show (true, codesL l, stripL (leafG c.roms c) l) = (true, codesR _ l, stripL (leafG c.roms c) l)
   rw [a, b]
  ·obtain ⟨pc, gs, rfl, hw⟩ := d v hv
   intro ρ kn _ hp
   rcases hw with rfl | hw
   ·exact fun g hg => by cases hg
   ·exact (refB_ok (fun cs hcs => hR cs hcs ρ kn.ok kn.F) (fun _ h => h) hw hp).elim
 ·cases h
end
end Go.Proofs.Ythenenacmiiphaa.Sx
