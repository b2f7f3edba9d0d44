/- A reckoner of Go's small steps over letters: letters that stand for other things; calls that are told ahead. No condition. -/
import Derived.Test.YtjgkaimgocnkmabSx2
set_option linter.unusedVariables false
set_option linter.unusedSimpArgs false
namespace Go.Proofs.Ytjgkaimgocnkmab.Sx
open Go
noncomputable section

structure Sub where
  i : List (IntKind × Nat × IE)
  b : List (Nat × BE)
  l : List (Nat × LE)
  v : List (Nat × SV)
  a : List (Nat × Nat)
  r : List (Nat × LE)
def Sub.nil : Sub := ⟨[], [], [], [], [], []⟩
def lkI : List (IntKind × Nat × IE) → IntKind → Nat → Option IE
  | [], _, _ => none
  | (j, m, e) :: l, k, n => if keq j k then (if Nat.beq m n then some e else lkI l k n) else lkI l k n
def nmA (l : List (Nat × Nat)) (n : Nat) : Nat :=
  match lk l n with
  | some m => m
  | none => n
mutual
def IE.sb (pc : List BE) (S : Sub) : IE → IE
  | .lit n => .lit n
  | .var k n => (match lkI S.i k n with
    | some e => e
    | none => .var k n)
  | .add x y => .add (x.sb pc S) (y.sb pc S)
  | .sub x y => .sub (x.sb pc S) (y.sb pc S)
  | .mul x y => .mul (x.sb pc S) (y.sb pc S)
  | .wrap k x => .wrap k (x.sb pc S)
  | .bin op k x y => .bin op k (x.sb pc S) (y.sb pc S)
  | .cel k l i j => .cel k (l.sb pc S) (i.sb pc S) j
  | .len l => lenE pc (l.sb pc S)
  | .rcap r => .rcap r
  | .fn k n a => .fn k n (a.sb pc S)
  | .ite c x y => .ite (c.sb pc S) (x.sb pc S) (y.sb pc S)
def BE.sb (pc : List BE) (S : Sub) : BE → BE
  | .lit b => .lit b
  | .var n => (match lk S.b n with
    | some e => e
    | none => .var n)
  | .le x y => .le (x.sb pc S) (y.sb pc S)
  | .eq x y => .eq (x.sb pc S) (y.sb pc S)
  | .not x => mkNot (x.sb pc S)
  | .and x y => mkAnd (x.sb pc S) (y.sb pc S)
  | .iff x y => .iff (x.sb pc S) (y.sb pc S)
  | .cel l i j => .cel (l.sb pc S) (i.sb pc S) j
  | .leq a b => .leq (a.sb pc S) (b.sb pc S)
  | .rnil r => .rnil r
  | .fn n a => .fn n (a.sb pc S)
def LE.sb (pc : List BE) (S : Sub) : LE → LE
  | .nil => .nil
  | .var n => (match lk S.l n with
    | some e => e
    | none => .var n)
  | .rom r => (match lk S.r r with
    | some l => l
    | none => .rom r)
  | .cat a b => .cat (a.sb pc S) (b.sb pc S)
  | .one c => .one (c.sb pc S)
  | .set a i c => .set (a.sb pc S) (i.sb pc S) (c.sb pc S)
  | .take a i => .take (a.sb pc S) (i.sb pc S)
  | .drop a i => .drop (a.sb pc S) (i.sb pc S)
  | .rep c n => .rep (c.sb pc S) (n.sb pc S)
  | .str a i j => .str (a.sb pc S) (i.sb pc S) j
  | .fn n a => .fn n (a.sb pc S)
def AL.sb (pc : List BE) (S : Sub) : AL → AL
  | .nil => .nil
  | .int k e r => .int k (e.sb pc S) (r.sb pc S)
  | .bool b r => .bool (b.sb pc S) (r.sb pc S)
  | .lst l r => .lst (l.sb pc S) (r.sb pc S)
  | .cel l i j r => .cel (l.sb pc S) (i.sb pc S) j (r.sb pc S)
end
/- whether nothing is asked of capacities -/
mutual
def IE.free : IE → Bool
  | .lit _ => true
  | .var _ n => Nat.blt n 1000
  | .add x y => if x.free then y.free else false
  | .sub x y => if x.free then y.free else false
  | .mul x y => if x.free then y.free else false
  | .wrap _ x => x.free
  | .bin _ _ x y => if x.free then y.free else false
  | .cel _ l i _ => if l.free then i.free else false
  | .len l => l.free
  | .rcap _ => false
  | .fn _ _ a => a.free
  | .ite c x y => if c.free then (if x.free then y.free else false) else false
def BE.free : BE → Bool
  | .lit _ => true
  | .var n => Nat.blt n 1000
  | .le x y => if x.free then y.free else false
  | .eq x y => if x.free then y.free else false
  | .not x => x.free
  | .and x y => if x.free then y.free else false
  | .iff x y => if x.free then y.free else false
  | .cel l i _ => if l.free then i.free else false
  | .leq a b => if a.free then b.free else false
  | .rnil _ => false
  | .fn _ a => a.free
def LE.free : LE → Bool
  | .nil => true
  | .var n => Nat.blt n 1000
  | .rom _ => true
  | .cat a b => if a.free then b.free else false
  | .one c => c.free
  | .set a i c => if a.free then (if i.free then c.free else false) else false
  | .take a i => if a.free then i.free else false
  | .drop a i => if a.free then i.free else false
  | .rep c n => if c.free then n.free else false
  | .str a i _ => if a.free then i.free else false
  | .fn _ a => a.free
def AL.free : AL → Bool
  | .nil => true
  | .int _ e r => if e.free then r.free else false
  | .bool b r => if b.free then r.free else false
  | .lst l r => if l.free then r.free else false
  | .cel l i _ r => if l.free then (if i.free then r.free else false) else false
end
def subFn (S : Sub) : Fn → Fn
  | .yield l => .yield (nmA S.a l)
  | f => f
def subIs (pc : List BE) (S : Sub) : List IE → List IE
  | [] => []
  | e :: l => e.sb pc S :: subIs pc S l
def subO (pc : List BE) (S : Sub) : Option IE → Option IE
  | none => none
  | some e => some (e.sb pc S)
mutual
def SV.sb (pc : List BE) (S : Sub) : SV → SV
  | .bool b => .bool (b.sb pc S)
  | .int k e => .int k (e.sb pc S)
  | .ptr n off => .ptr (nmA S.a n) off
  | .slice n off len cap => .slice (nmA S.a n) off len cap
  | .func fn f c => .func (subFn S fn) (SV.sbL pc S f) (SV.sbL pc S c)
  | .iface t v => .iface t (v.sb pc S)
  | .agg cs => .agg (SV.sbL pc S cs)
  | .tup vs => .tup (SV.sbL pc S vs)
  | .opq n => (match lk S.v n with
    | some v => v
    | none => .opq n)
  | .const v => .const v
  | .str bs => .str (subIs pc S bs)
  | .sl n cn sz off len => .sl (nmA S.a n) (nmA S.a cn) sz off len
  | .rom r off len cap => .rom r (off.sb pc S) (len.sb pc S) (subO pc S cap)
  | .rptr r i c => .rptr r (i.sb pc S) c
  | .sll n cn sz off len cap => .sll (nmA S.a n) (nmA S.a cn) sz (off.sb pc S) (len.sb pc S) (subO pc S cap)
  | .lptr n sz i c => .lptr (nmA S.a n) sz (i.sb pc S) c
  | .lstr l => .lstr (l.sb pc S)
  | .cel l i j => .cel (l.sb pc S) (i.sb pc S) j
def SV.sbL (pc : List BE) (S : Sub) : List SV → List SV
  | [] => []
  | v :: l => v.sb pc S :: SV.sbL pc S l
end
def subSl (pc : List BE) (S : Sub) : Slots → Slots
  | [] => []
  | l :: r => SV.sbL pc S l :: subSl pc S r
def SObj.sb (pc : List BE) (S : Sub) : SObj → SObj
  | .cells cs t => .cells (SV.sbL pc S cs) t
  | .row cs t cn sz => .row (SV.sbL pc S cs) t (nmA S.a cn) sz
  | .rowl c tot ks t cn sz => .rowl (c.sb pc S) (tot.sb pc S) ks t (nmA S.a cn) sz
  | .loop st pend fn tmps ps as body d => .loop st pend fn (subSl pc S tmps) ps as body (nmA S.a d)
  | .defd s => .defd s
def Sub.addI (S : Sub) (k : IntKind) (n : Nat) (e : IE) : Sub := match lkI S.i k n with
  | some _ => S
  | none => { S with i := (k, n, e) :: S.i }
def Sub.addB (S : Sub) (n : Nat) (e : BE) : Sub := match lk S.b n with
  | some _ => S
  | none => { S with b := (n, e) :: S.b }
def Sub.addL (S : Sub) (n : Nat) (e : LE) : Sub := match lk S.l n with
  | some _ => S
  | none => { S with l := (n, e) :: S.l }
def Sub.addV (S : Sub) (n : Nat) (e : SV) : Sub := match lk S.v n with
  | some _ => S
  | none => { S with v := (n, e) :: S.v }
def Sub.addA (S : Sub) (n m : Nat) : Sub := match lk S.a n with
  | some _ => S
  | none => { S with a := (n, m) :: S.a }
/- calls that are told ahead -/
/-- Things that may be told of a call, flat: no names but of what is new, nothing of capacities. -/
def SV.flat : SV → Bool
  | .bool b => b.free
  | .int _ e => e.free
  | .lstr l => l.free
  | .sll _ _ _ (.lit (.ofNat 0)) len none => len.free
  | .const (.slice none 0 0) => true
  | _ => false
def flatL : List SV → Bool
  | [] => true
  | v :: l => if v.flat then flatL l else false
def SV.flat1 : SV → Bool
  | .agg cs => flatL cs
  | v => v.flat
def flatL1 : List SV → Bool
  | [] => true
  | v :: l => if v.flat1 then flatL1 l else false
def SV.flat2 : SV → Bool
  | .tup vs => flatL1 vs
  | v => v.flat1
def flatH : SHeap → Bool
  | [] => true
  | (_, .rowl c tot _ _ _ _) :: h => if c.free then (if tot.free then flatH h else false) else false
  | _ => false
def freeL : List BE → Bool
  | [] => true
  | b :: l => if b.free then freeL l else false
abbrev Roms := List (Nat × (Nat × List CK))
/-- What a told call's letters stand for; which slices its arguments are. -/
structure Mt where
  S : Sub
  m : List (Nat × SV)
def matchV (roms : Roms) (pc : List BE) (h : SHeap) (cr : Roms) : SV → SV → Mt → Mt
  | .int _ (.var k n), .int _ e, M => { M with S := M.S.addI k n e }
  | .bool (.var n), .bool e, M => { M with S := M.S.addB n e }
  | .lstr (.var n), x, M => (match asL roms pc x with
    | some l => { M with S := M.S.addL n l }
    | none => M)
  | .rom r _ _ _, x, M => (match lk cr r with
    | some (esz, _) => (match srcL roms pc h esz x with
      | some s => { S := { M.S with r := (r, s.l) :: M.S.r }, m := (r, x) :: M.m }
      | none => M)
    | none => M)
  | _, _, M => M
def matchL (roms : Roms) (pc : List BE) (h : SHeap) (cr : Roms) : List SV → List SV → Mt → Mt
  | p :: ps, v :: vs, M => matchL roms pc h cr ps vs (matchV roms pc h cr p v M)
  | _, _, M => M
def match1 (roms : Roms) (pc : List BE) (h : SHeap) (cr : Roms) : List SV → List SV → Mt → Mt
  | .agg p :: ps, .agg v :: vs, M => match1 roms pc h cr ps vs (matchL roms pc h cr p v M)
  | p :: ps, v :: vs, M => match1 roms pc h cr ps vs (matchV roms pc h cr p v M)
  | _, _, M => M
/-- A slice that may be handed on: what it holds and how it is cut. -/
def capOk (pc : List BE) : SV → Bool
  | .rom _ _ len (some c) => (match dec pc (mkLe len c) with
    | some true => true
    | _ => false)
  | .sll _ _ _ _ len (some c) => (match dec pc (mkLe len c) with
    | some true => true
    | _ => false)
  | .slice _ _ len cap => Nat.ble len cap
  | .rom _ _ _ none => true
  | .sll _ _ _ _ _ none => true
  | .const (.slice none 0 0) => true
  | _ => false
def fitV (roms : Roms) (pc : List BE) (h : SHeap) (cr : Roms) (M : Mt) : SV → SV → Bool
  | .rom r (.lit (.ofNat 0)) (.len (.rom q)) none, x => if Nat.beq r q then (match lk cr r, lk M.m r with
    | some _, some y => SV.beq x y
    | _, _ => false) else false
  | .lstr (.var n), x => if oddN n then (match asL roms pc x, lk M.S.l n with
    | some l, some l' => l.beq l'
    | _, _ => false) else false
  | .int k (.var j n), .int i e => if keq k i then (if keq k j then (if inK pc k e then (match lkI M.S.i j n with
    | some e' => e.beq e'
    | none => false) else false) else false) else false
  | .bool (.var n), .bool e => (match lk M.S.b n with
    | some e' => e.beq e'
    | none => false)
  | .int k (.lit a), .int j (.lit b) => if keq k j then ieqb a b else false
  | .bool (.lit a), .bool (.lit b) => a == b
  | .func (.func f) [] [], .func (.func g) [] [] => Nat.beq f g
  | .const .nilFunc, .const .nilFunc => true
  | _, _ => false
def fitL (roms : Roms) (pc : List BE) (h : SHeap) (cr : Roms) (M : Mt) : List SV → List SV → Bool
  | [], [] => true
  | p :: ps, v :: vs => if fitV roms pc h cr M p v then fitL roms pc h cr M ps vs else false
  | _, _ => false
def fit1 (roms : Roms) (pc : List BE) (h : SHeap) (cr : Roms) (M : Mt) : List SV → List SV → Bool
  | [], [] => true
  | .agg p :: ps, .agg v :: vs => if fitL roms pc h cr M p v then fit1 roms pc h cr M ps vs else false
  | p :: ps, v :: vs => if fitV roms pc h cr M p v then fit1 roms pc h cr M ps vs else false
  | _, _ => false
/-- The slices that a told call reads are all among its arguments, and what it takes them to be. -/
def romsIn (roms : Roms) (pc : List BE) (h : SHeap) (M : Mt) : Roms → Bool
  | [] => true
  | (r, (esz, ks)) :: t => (match lk M.m r, lk M.S.r r with
    | some y, some l => if capOk pc y then (match srcL roms pc h esz y with
      | some s => if s.l.beq l then (if ksFits ks s.ks then (if Nat.beq ks.length esz then (match dec pc (mkLe (lenE pc l) (.lit 9223372036854775807)) with
        | some true => romsIn roms pc h M t
        | _ => false) else false) else false) else false
      | none => false) else false
    | _, _ => false)
def romsLen (pc : List BE) : List (Nat × LE) → Bool
  | [] => true
  | (_, l) :: t => (match dec pc (mkLe (lenE pc l) (.lit 9223372036854775807)) with
    | some true => romsLen pc t
    | _ => false)
def insK (pc : List BE) : List (IntKind × Nat × IE) → Bool
  | [] => true
  | (k, _, e) :: l => if inK pc k e then insK pc l else false
def oddsB (roms : Roms) (pc : List BE) : List (Nat × LE) → Bool
  | [] => true
  | (n, e) :: l => if oddN n then (if typedB roms pc e then (match dec pc (mkLe (lenE pc e) (.lit 9223372036854775807)) with
    | some true => oddsB roms pc l
    | _ => false) else false) else false
inductive PR where
  | ok
  | no
  | split (c : BE)
def preOk (pc : List BE) (S : Sub) : List BE → PR
  | [] => .ok
  | p :: l => (match dec pc (p.sb pc S) with
    | some true => preOk pc S l
    | some false => .no
    | none => .split (atom pc (p.sb pc S)))
def shiftA (nx : Nat) : Nat → Nat → List (Nat × Nat)
  | 0, _ => []
  | k + 1, n => (n, nx + n) :: shiftA nx k (n + 1)
def sbH (pc : List BE) (S : Sub) : SHeap → SHeap
  | [] => []
  | (n, o) :: h => (nmA S.a n, o.sb pc S) :: sbH pc S h
def sbPc (pc : List BE) (S : Sub) : List BE → List BE
  | [] => []
  | p :: l => p.sb pc S :: sbPc pc S l
structure Used where
  val : SV
  made : SHeap
  next : Nat
  post : List BE
inductive FR where
  | no
  | use (u : Used)
  | split (c : BE)
def useC (roms : Roms) (pc : List BE) (h : SHeap) (nx : Nat) (c : Ctr) (args : List SV) : FR :=
  match match1 roms pc h c.roms c.pat args ⟨Sub.nil, []⟩ with
  | M => if fit1 roms pc h c.roms M c.pat args then (if romsIn roms pc h M c.roms then (if insK pc M.S.i then (if oddsB roms pc M.S.l then (if romsLen pc M.S.r then (match preOk pc M.S c.pre with
      | .ok => (match { M.S with a := shiftA nx c.cnt 0 } with
        | S => .use ⟨c.res.sb pc S, sbH pc S c.heap, nx + c.cnt, sbPc pc S c.post⟩)
      | .no => .no
      | .split b => .split b) else .no) else .no) else .no) else .no) else .no
def findC (roms : Roms) (pc : List BE) (h : SHeap) (nx : Nat) (f : FuncId) (args : List SV) : List Ctr → FR
  | [] => .no
  | c :: l => if Nat.beq c.f f then (match useC roms pc h nx c args with
    | .no => findC roms pc h nx f args l
    | r => r) else findC roms pc h nx f args l
end
end Go.Proofs.Ytjgkaimgocnkmab.Sx
