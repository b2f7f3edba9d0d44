/- A reckoner of Go's small steps over letters: its data and its rules. No condition. -/
import Derived.Calls
import Derived.Scope
import Derived.KernelRfl
import Derived.IntWalk
set_option linter.unusedVariables false
set_option linter.unusedSimpArgs false
namespace Go.Proofs.Ytjgkaimgocnkmab.Sx
open Go

/-- What a row holds: its elements, each its cells. -/
abbrev LV := List (List Value)
/-- What a function of the specification takes. -/
inductive AV where
  | int (k : IntKind) (n : Int)
  | bool (b : Bool)
  | lst (l : LV)
  | val (v : Value)
/-- The specification's functions. -/
structure Fns where
  i : Nat → List AV → Int
  b : Nat → List AV → Bool
  l : Nat → List AV → LV
  g : List (Nat × List Value)
/-- What stays through a run: what came in, and where it lies; functions. -/
structure Env where
  F : Fns
  rl : Nat → LV
  ra : Nat → Option Addr
  rb : Nat → Nat
  ro : Nat → Nat
  rc : Nat → Nat
  re : Nat → Nat
structure Rho where
  i : IntKind → Nat → Int
  b : Nat → Bool
  l : Nat → LV
  v : Nat → Value
  a : Nat → Nat
  z : Env

mutual
inductive IE where
  | lit (n : Int)
  | var (k : IntKind) (n : Nat)
  | add (x y : IE)
  | sub (x y : IE)
  | mul (x y : IE)
  | wrap (k : IntKind) (x : IE)
  | bin (op : BinOp) (k : IntKind) (x y : IE)
  | cel (k : IntKind) (l : LE) (i : IE) (j : Nat)
  | len (l : LE)
  | rcap (r : Nat)
  | fn (k : IntKind) (n : Nat) (a : AL)
  | ite (c : BE) (x y : IE)
inductive BE where
  | lit (b : Bool)
  | var (n : Nat)
  | le (x y : IE)
  | eq (x y : IE)
  | not (x : BE)
  | and (x y : BE)
  | iff (x y : BE)
  | cel (l : LE) (i : IE) (j : Nat)
  | leq (a b : LE)
  | rnil (r : Nat)
  | fn (n : Nat) (a : AL)
inductive LE where
  | nil
  | var (n : Nat)
  | rom (r : Nat)
  | cat (a b : LE)
  | one (c : AL)
  | set (a : LE) (i : IE) (c : AL)
  | take (a : LE) (i : IE)
  | drop (a : LE) (i : IE)
  | rep (c : AL) (n : IE)
  | str (a : LE) (i : IE) (j : Nat)
  | fn (n : Nat) (a : AL)
inductive AL where
  | nil
  | int (k : IntKind) (e : IE) (r : AL)
  | bool (b : BE) (r : AL)
  | lst (l : LE) (r : AL)
  | cel (l : LE) (i : IE) (j : Nat) (r : AL)
end
instance : Inhabited IE := ⟨.lit 0⟩
inductive SV where
  | bool (b : BE)
  | int (k : IntKind) (e : IE)
  | ptr (n off : Nat)
  | slice (n off len cap : Nat)
  | func (fn : Fn) (first captured : List SV)
  | iface (t : TypeId) (v : SV)
  | agg (cs : List SV)
  | tup (vs : List SV)
  | opq (n : Nat)
  | const (v : Value)
  | str (bs : List IE)
  | sl (n cn sz off len : Nat)
  | rom (r : Nat) (off len : IE) (cap : Option IE)
  | rptr (r : Nat) (i : IE) (c : Nat)
  | sll (n cn sz : Nat) (off len : IE) (cap : Option IE)
  | lptr (n sz : Nat) (i : IE) (c : Nat)
  | lstr (l : LE)
  | cel (l : LE) (i : IE) (j : Nat)
instance : Inhabited SV := ⟨.tup []⟩
/-- A frame's slots, in eights. -/
abbrev Slots := List (List SV)
/-- Kinds of cells. -/
inductive CK where
  | int (k : IntKind)
  | bool
  | str
  | any
inductive SObj where
  | cells (cs : List SV) (t : TypeId)
  | row (cs : List SV) (t : TypeId) (cn sz : Nat)
  | rowl (c : LE) (tot : IE) (ks : List CK) (t : TypeId) (cn sz : Nat)
  | loop (st : LoopState) (pending : Option Code) (fn : FuncId) (tmps : Slots) (params : List Tmp) (assign body : Code) (defers : Nat)
  | defd (stands : Bool)
inductive SItem where
  | code (c : Code)
  | inBlock (id : Nat)
  | inLoop (body : Code)
  | inScope (body : Code)
  | inRegion (ops : Array Oper) (rest : List Nat)
  | inRange (n : Nat)
  | endRange (n : Nat)
  | beginRound
structure SFrame where
  fn : FuncId
  tmps : Slots
  todo : List SItem
  defers : List Nat
  ret : Bool
  round : Option Nat
abbrev SHeap := List (Nat × SObj)
structure Cfg where
  top : SFrame
  rest : List SFrame
  heap : SHeap
  next : Nat
  pc : List BE

/- lists, by their eliminators: the kernel goes over them fast -/
noncomputable def nth {α : Type} (l : List α) : Nat → Option α := List.rec (motive := fun _ => Nat → Option α) (fun _ => none) (fun x _ ih n => Nat.rec (motive := fun _ => Option α) (some x) (fun m _ => ih m) n) l
noncomputable def put {α : Type} (l : List α) : Nat → α → List α := List.rec (motive := fun _ => Nat → α → List α) (fun _ _ => []) (fun x xs ih n v => Nat.rec (motive := fun _ => List α) (v :: xs) (fun m _ => x :: ih m v) n) l
noncomputable def lk {α : Type} (l : List (Nat × α)) : Nat → Option α := List.rec (motive := fun _ => Nat → Option α) (fun _ => none) (fun x _ ih n => Bool.rec (motive := fun _ => Option α) (ih n) (some x.2) (Nat.beq x.1 n)) l
noncomputable def up {α : Type} (l : List (Nat × α)) : Nat → α → List (Nat × α) := List.rec (motive := fun _ => Nat → α → List (Nat × α)) (fun _ _ => []) (fun x xs ih n v => Bool.rec (motive := fun _ => List (Nat × α)) (x :: ih n v) ((n, v) :: xs) (Nat.beq x.1 n)) l
def fnat {β : Type} (n : Nat) (k : Nat → β) : β := match n with
  | 0 => k 0
  | m + 1 => k (m + 1)
def fint {β : Type} (n : Int) (k : Int → β) : β := match n with
  | .ofNat m => fnat m fun m => k (.ofNat m)
  | .negSucc m => fnat m fun m => k (.negSucc m)
noncomputable def get2 (t : Slots) (i : Nat) : Option SV := match nth t (Nat.div i 8) with
  | some c => nth c (Nat.mod i 8)
  | none => none
noncomputable def put2 (t : Slots) (i : Nat) (v : SV) : Slots := match nth t (Nat.div i 8) with
  | some c => put t (Nat.div i 8) (put c (Nat.mod i 8) v)
  | none => t
def chunk : Nat → List SV → Slots
  | 0, _ => []
  | _ + 1, [] => []
  | n + 1, a :: b :: c :: d :: e :: f :: g :: h :: l => [a, b, c, d, e, f, g, h] :: chunk n l
  | _ + 1, l => [l]
def ileb : Int → Int → Bool
  | .ofNat a, .ofNat b => Nat.ble a b
  | .ofNat _, .negSucc _ => false
  | .negSucc _, .ofNat _ => true
  | .negSucc a, .negSucc b => Nat.ble b a
def ieqb : Int → Int → Bool
  | .ofNat a, .ofNat b => Nat.beq a b
  | .negSucc a, .negSucc b => Nat.beq a b
  | _, _ => false
def kno : IntKind → Nat
  | .i8 => 0 | .i16 => 1 | .i32 => 2 | .i64 => 3 | .u8 => 4 | .u16 => 5 | .u32 => 6 | .u64 => 7
def keq (a b : IntKind) : Bool := Nat.beq (kno a) (kno b)
def kmin : IntKind → Int
  | .i8 => -128 | .i16 => -32768 | .i32 => -2147483648 | .i64 => -9223372036854775808 | _ => 0
def kmax : IntKind → Int
  | .i8 => 127 | .i16 => 32767 | .i32 => 2147483647 | .i64 => 9223372036854775807
  | .u8 => 255 | .u16 => 65535 | .u32 => 4294967295 | .u64 => 18446744073709551615
def bopno : BinOp → Nat
  | .add => 0 | .sub => 1 | .mul => 2 | .quo => 3 | .rem => 4 | .and => 5 | .or => 6 | .xor => 7 | .shl => 8 | .shr => 9 | .andNot => 10
  | .eql => 11 | .neq => 12 | .lss => 13 | .leq => 14 | .gtr => 15 | .geq => 16
/-- The integer that an operation gives. -/
def binI (op : BinOp) (k : IntKind) (x y : Int) : Int :=
  match op with
  | .quo => k.wrap (x.tdiv y)
  | .rem => x.tmod y
  | .and => k.wrap ((BitVec.ofInt k.bits x &&& BitVec.ofInt k.bits y).toNat)
  | .or => k.wrap ((BitVec.ofInt k.bits x ||| BitVec.ofInt k.bits y).toNat)
  | .xor => k.wrap ((BitVec.ofInt k.bits x ^^^ BitVec.ofInt k.bits y).toNat)
  | .andNot => k.wrap ((BitVec.ofInt k.bits x &&& ~~~BitVec.ofInt k.bits y).toNat)
  | .shl => k.wrap (x * 2 ^ (min y.toNat k.bits))
  | .shr => x.fdiv (2 ^ (min y.toNat k.bits))
  | _ => 0

/- what a row's cells are -/
def bytesOf (l : List Int) : ByteArray := ⟨(l.map fun n => UInt8.ofNat n.toNat).toArray⟩
def intV : Value → Int
  | .int _ n => n
  | _ => 0
def boolV : Value → Bool
  | .bool b => b
  | _ => false
/-- A text's bytes, as a row. -/
def strV : Value → LV
  | .string s => s.data.toList.map fun b => [.int .u8 b.toNat]
  | _ => []
def byteL (l : LV) : ByteArray := bytesOf (l.map fun c => intV (c.headD (.bool false)))
def AV.cell : AV → Value
  | .int k n => .int k n
  | .bool b => .bool b
  | .lst l => .string (byteL l)
  | .val v => v
def celV (l : LV) (i : Int) (j : Nat) : Value := (l.getD i.toNat []).getD j (.bool false)
def clampK (k : IntKind) (n : Int) : Int := if kmin k ≤ n ∧ n ≤ kmax k then n else 0
def lenV (l : LV) : Int := (l.length : Int)
noncomputable def eqV (a b : LV) : Bool := @decide (a = b) (Classical.propDecidable _)
mutual
noncomputable def IE.den (ρ : Rho) : IE → Int
  | .lit n => n
  | .var k n => ρ.i k n
  | .add x y => x.den ρ + y.den ρ
  | .sub x y => x.den ρ - y.den ρ
  | .mul x y => x.den ρ * y.den ρ
  | .wrap k x => k.wrap (x.den ρ)
  | .bin op k x y => binI op k (x.den ρ) (y.den ρ)
  | .cel k l i j => clampK k (intV (celV (l.den ρ) (i.den ρ) j))
  | .len l => lenV (l.den ρ)
  | .rcap r => (ρ.z.rc r : Int)
  | .fn k n a => clampK k (ρ.z.F.i n (a.den ρ))
  | .ite c x y => if c.den ρ then x.den ρ else y.den ρ
noncomputable def BE.den (ρ : Rho) : BE → Bool
  | .lit b => b
  | .var n => ρ.b n
  | .le x y => decide (x.den ρ ≤ y.den ρ)
  | .eq x y => decide (x.den ρ = y.den ρ)
  | .not x => !x.den ρ
  | .and x y => x.den ρ && y.den ρ
  | .iff x y => x.den ρ == y.den ρ
  | .cel l i j => boolV (celV (l.den ρ) (i.den ρ) j)
  | .leq a b => eqV (a.den ρ) (b.den ρ)
  | .rnil r => (ρ.z.ra r).isNone
  | .fn n a => ρ.z.F.b n (a.den ρ)
noncomputable def LE.den (ρ : Rho) : LE → LV
  | .nil => []
  | .var n => ρ.l n
  | .rom r => ρ.z.rl r
  | .cat a b => a.den ρ ++ b.den ρ
  | .one c => [(c.den ρ).map AV.cell]
  | .set a i c => (a.den ρ).set (i.den ρ).toNat ((c.den ρ).map AV.cell)
  | .take a i => (a.den ρ).take (i.den ρ).toNat
  | .drop a i => (a.den ρ).drop (i.den ρ).toNat
  | .rep c n => List.replicate (n.den ρ).toNat ((c.den ρ).map AV.cell)
  | .str a i j => strV (celV (a.den ρ) (i.den ρ) j)
  | .fn n a => ρ.z.F.l n (a.den ρ)
noncomputable def AL.den (ρ : Rho) : AL → List AV
  | .nil => []
  | .int k e r => .int k (e.den ρ) :: r.den ρ
  | .bool b r => .bool (b.den ρ) :: r.den ρ
  | .lst l r => .lst (l.den ρ) :: r.den ρ
  | .cel l i j r => .val (celV (l.den ρ) (i.den ρ) j) :: r.den ρ
end
def fnDen (ρ : Rho) : Fn → Fn
  | .yield l => .yield (ρ.a l)
  | f => f
/-- A slice's own room: its capacity, told or not. -/
noncomputable def capDen (ρ : Rho) (n : Nat) : Option IE → Nat
  | none => n
  | some e => (e.den ρ).toNat
mutual
noncomputable def SV.den (ρ : Rho) : SV → Value
  | .bool b => .bool (b.den ρ)
  | .int k e => .int k (e.den ρ)
  | .ptr n off => .pointer (some ⟨ρ.a n, off, none⟩)
  | .slice n off len cap => .slice (some ⟨ρ.a n, off, none⟩) len cap
  | .func fn f c => .func (fnDen ρ fn) (SV.denL ρ f).toArray (SV.denL ρ c).toArray
  | .iface t v => .iface t (v.den ρ)
  | .agg cs => .agg (SV.denL ρ cs).toArray
  | .tup vs => .tuple (SV.denL ρ vs).toArray
  | .opq n => ρ.v n
  | .const v => v
  | .str bs => .string (bytesOf (bs.map (IE.den ρ)))
  | .sl n cn sz off len => .slice (some ⟨ρ.a n, off * sz, none⟩) len (ρ.a cn - off)
  | .rom r off len cap => .slice ((ρ.z.ra r).map fun a => a.add ((off.den ρ).toNat * ρ.z.re r)) (len.den ρ).toNat (capDen ρ (ρ.z.rc r - (off.den ρ).toNat) cap)
  | .rptr r i c => .pointer (some ⟨ρ.z.rb r, ρ.z.ro r + (i.den ρ).toNat * ρ.z.re r + c, none⟩)
  | .sll n cn sz off len cap => .slice (some ⟨ρ.a n, (off.den ρ).toNat * sz, none⟩) (len.den ρ).toNat (capDen ρ (ρ.a cn - (off.den ρ).toNat) cap)
  | .lptr n sz i c => .pointer (some ⟨ρ.a n, (i.den ρ).toNat * sz + c, none⟩)
  | .lstr l => .string (byteL (l.den ρ))
  | .cel l i j => celV (l.den ρ) (i.den ρ) j
noncomputable def SV.denL (ρ : Rho) : List SV → List Value
  | [] => []
  | v :: l => v.den ρ :: SV.denL ρ l
end

mutual
def IE.beq : IE → IE → Bool
  | .lit a, .lit b => ieqb a b
  | .var k n, .var j m => if Nat.beq n m then keq k j else false
  | .add a b, .add c d => if a.beq c then b.beq d else false
  | .sub a b, .sub c d => if a.beq c then b.beq d else false
  | .mul a b, .mul c d => if a.beq c then b.beq d else false
  | .wrap k a, .wrap j b => if keq k j then a.beq b else false
  | .bin o k a b, .bin p j c d => if Nat.beq (bopno o) (bopno p) then (if keq k j then (if a.beq c then b.beq d else false) else false) else false
  | .cel k l i n, .cel j m p q => if Nat.beq n q then (if keq k j then (if i.beq p then l.beq m else false) else false) else false
  | .len l, .len m => l.beq m
  | .rcap r, .rcap q => Nat.beq r q
  | .fn k n a, .fn j m b => if keq k j then (if Nat.beq n m then a.beq b else false) else false
  | .ite c a b, .ite d e f => if c.beq d then (if a.beq e then b.beq f else false) else false
  | _, _ => false
def BE.beq : BE → BE → Bool
  | .lit a, .lit b => a == b
  | .var n, .var m => Nat.beq n m
  | .le a b, .le c d => if a.beq c then b.beq d else false
  | .eq a b, .eq c d => if a.beq c then b.beq d else false
  | .not a, .not b => a.beq b
  | .and a b, .and c d => if a.beq c then b.beq d else false
  | .iff a b, .iff c d => if a.beq c then b.beq d else false
  | .cel l i n, .cel m p q => if Nat.beq n q then (if i.beq p then l.beq m else false) else false
  | .leq a b, .leq c d => if a.beq c then b.beq d else false
  | .rnil r, .rnil q => Nat.beq r q
  | .fn n a, .fn m b => if Nat.beq n m then a.beq b else false
  | _, _ => false
def LE.beq : LE → LE → Bool
  | .nil, .nil => true
  | .var n, .var m => Nat.beq n m
  | .rom r, .rom q => Nat.beq r q
  | .cat a b, .cat c d => if a.beq c then b.beq d else false
  | .one c, .one d => c.beq d
  | .set a i c, .set b j d => if i.beq j then (if c.beq d then a.beq b else false) else false
  | .take a i, .take b j => if i.beq j then a.beq b else false
  | .drop a i, .drop b j => if i.beq j then a.beq b else false
  | .rep c n, .rep d m => if n.beq m then c.beq d else false
  | .str l i n, .str m p q => if Nat.beq n q then (if i.beq p then l.beq m else false) else false
  | .fn n a, .fn m b => if Nat.beq n m then a.beq b else false
  | _, _ => false
def AL.beq : AL → AL → Bool
  | .nil, .nil => true
  | .int k e r, .int j f q => if keq k j then (if e.beq f then r.beq q else false) else false
  | .bool a r, .bool b q => if a.beq b then r.beq q else false
  | .lst a r, .lst b q => if a.beq b then r.beq q else false
  | .cel l i n r, .cel m p o q => if Nat.beq n o then (if i.beq p then (if l.beq m then r.beq q else false) else false) else false
  | _, _ => false
end
def atB : BE → Bool
  | .lit _ => false
  | .not _ => false
  | .and _ _ => false
  | .iff _ _ => false
  | _ => true

/- what is known of an integer -/
def omax : Option Int → Int → Option Int
  | none, b => some b
  | some a, b => if ileb a b then some b else some a
def omin : Option Int → Int → Option Int
  | none, b => some b
  | some a, b => if ileb a b then some a else some b
/-- The least that is known, off the ways' tests. -/
def low1 (e : IE) (p : BE) (o : Option Int) : Option Int :=
  match p with
  | .not (.le x (.lit c)) => if x.beq e then fint (c + 1) (omax o) else o
  | .le (.lit c) y => if y.beq e then omax o c else o
  | .eq x (.lit c) => if x.beq e then omax o c else o
  | _ => o
def high1 (e : IE) (p : BE) (o : Option Int) : Option Int :=
  match p with
  | .le x (.lit c) => if x.beq e then omin o c else o
  | .not (.le (.lit c) y) => if y.beq e then fint (c - 1) (omin o) else o
  | .eq x (.lit c) => if x.beq e then omin o c else o
  | _ => o
def lows (pc : List BE) (e : IE) (o : Option Int) : Option Int := pc.foldr (low1 e) o
def highs (pc : List BE) (e : IE) (o : Option Int) : Option Int := pc.foldr (high1 e) o
def oadd : Option Int → Option Int → Option Int
  | some a, some b => fint (a + b) some
  | _, _ => none
def osub : Option Int → Option Int → Option Int
  | some a, some b => fint (a - b) some
  | _, _ => none
def oin (k : IntKind) : Option Int × Option Int → Bool
  | (some a, some b) => if ileb (kmin k) a then ileb b (kmax k) else false
  | _ => false
def nonneg : Option Int → Bool
  | some a => ileb 0 a
  | none => false
def upTo (k : IntKind) : Option Int → Bool
  | some a => ileb a (kmax k)
  | none => false
def maskOk (k : IntKind) : IE → Bool
  | .lit m => if ileb 0 m then ileb m (kmax k) else false
  | _ => false
def litO : IE → Option Int
  | .lit m => some m
  | _ => none
def above0 : Option Int → Bool
  | some a => ileb 1 a
  | none => false
/-- Bounds of what an operation gives. -/
def binLo (op : BinOp) (k : IntKind) (y : IE) (rx ry : Option Int × Option Int) : Option Int :=
  match op with
  | .quo => if nonneg rx.1 then (if nonneg ry.1 then (if upTo k rx.2 then some 0 else none) else none) else none
  | .rem => if nonneg rx.1 then some 0 else none
  | .and => if maskOk k y then some 0 else none
  | .shr => if nonneg rx.1 then some 0 else none
  | .or => some (kmin k)
  | .xor => some (kmin k)
  | .andNot => some (kmin k)
  | .shl => some (kmin k)
  | _ => none
def binHi (op : BinOp) (k : IntKind) (y : IE) (rx ry : Option Int × Option Int) : Option Int :=
  match op with
  | .quo => if nonneg rx.1 then (if nonneg ry.1 then (if upTo k rx.2 then rx.2 else none) else none) else none
  | .rem => if nonneg rx.1 then (if above0 ry.1 then (match ry.2 with
    | some b => fint (b - 1) (omin rx.2)
    | none => rx.2) else rx.2) else none
  | .and => if maskOk k y then litO y else none
  | .shr => if nonneg rx.1 then rx.2 else none
  | .or => some (kmax k)
  | .xor => some (kmax k)
  | .andNot => some (kmax k)
  | .shl => some (kmax k)
  | _ => none
def oboth (f : Option Int → Int → Option Int) : Option Int → Option Int → Option Int
  | some a, some b => f (some a) b
  | _, _ => none
/-- What a letter or what came in has at most. -/
def lenTop : LE → Option Int
  | .rom _ => some 9223372036854775807
  | .var _ => some 9223372036854775807
  | _ => none
/-- Bounds of an integer. -/
def rng (pc : List BE) : IE → Option Int × Option Int
  | .lit n => (some n, some n)
  | .var k n => (lows pc (.var k n) (some (kmin k)), highs pc (.var k n) (some (kmax k)))
  | .add x y => (lows pc (.add x y) (oadd (rng pc x).1 (rng pc y).1), highs pc (.add x y) (oadd (rng pc x).2 (rng pc y).2))
  | .sub x y => (lows pc (.sub x y) (osub (rng pc x).1 (rng pc y).2), highs pc (.sub x y) (osub (rng pc x).2 (rng pc y).1))
  | .mul x y => (lows pc (.mul x y) none, highs pc (.mul x y) none)
  | .wrap k x => (lows pc (.wrap k x) (some (kmin k)), highs pc (.wrap k x) (some (kmax k)))
  | .bin op k x y => (lows pc (.bin op k x y) (binLo op k y (rng pc x) (rng pc y)), highs pc (.bin op k x y) (binHi op k y (rng pc x) (rng pc y)))
  | .cel k l i j => (lows pc (.cel k l i j) (some (kmin k)), highs pc (.cel k l i j) (some (kmax k)))
  | .fn k n a => (lows pc (.fn k n a) (some (kmin k)), highs pc (.fn k n a) (some (kmax k)))
  | .len l => (lows pc (.len l) (some 0), highs pc (.len l) (lenTop l))
  | .rcap r => (lows pc (.rcap r) (some 0), highs pc (.rcap r) none)
  | .ite c x y => (lows pc (.ite c x y) (oboth omin (rng pc x).1 (rng pc y).1), highs pc (.ite c x y) (oboth omax (rng pc x).2 (rng pc y).2))
def fL {α β : Type} : List α → (List α → β) → β
  | [], k => k []
  | x :: l, k => fL l fun l => k (x :: l)
/- linear reasoning, by elimination; it is on where the tests hold '.lit true' -/
def memA (e : IE) : List IE → Bool
  | [] => false
  | a :: l => if a.beq e then true else memA e l
def addA (e : IE) (as : List IE) : List IE := if memA e as then as else as ++ [e]
def atomsOf : IE → List IE → List IE
  | .lit _, as => as
  | .add x y, as => atomsOf y (atomsOf x as)
  | .sub x y, as => atomsOf y (atomsOf x as)
  | .mul x y, as => (match x with
    | .lit _ => atomsOf y as
    | x => match y with
      | .lit _ => atomsOf x as
      | y => addA (.mul x y) as)
  | .var k n, as => addA (.var k n) as
  | .wrap k x, as => addA (.wrap k x) as
  | .bin o k x y, as => addA (.bin o k x y) as
  | .cel k l i j, as => addA (.cel k l i j) as
  | .len l, as => addA (.len l) as
  | .rcap r, as => addA (.rcap r) as
  | .fn k n a, as => addA (.fn k n a) as
  | .ite c x y, as => addA (.ite c x y) as
def factAtoms : BE → List IE → List IE
  | .le x y, as => atomsOf y (atomsOf x as)
  | .eq x y, as => atomsOf y (atomsOf x as)
  | .not (.le x y), as => atomsOf y (atomsOf x as)
  | .and p q, as => factAtoms q (factAtoms p as)
  | _, as => as
def anyIn (as : List IE) : List IE → Bool
  | [] => false
  | e :: l => if memA e as then true else anyIn as l
def addAs (as : List IE) : List IE → List IE
  | [] => as
  | e :: l => addAs (addA e as) l
def growA (as : List IE) : List BE → List IE
  | [] => as
  | p :: pc => fL (factAtoms p []) fun l => if anyIn as l then fL (addAs as l) fun as => growA as pc else growA as pc
abbrev LF := Int × List Int
def vadd : List Int → List Int → List Int
  | [], m => m
  | a :: l, [] => a :: l
  | a :: l, b :: m => fint (a + b) fun c => c :: vadd l m
def vscale (k : Int) : List Int → List Int
  | [] => []
  | a :: l => fint (k * a) fun c => c :: vscale k l
def ladd (x y : LF) : LF := fint (x.1 + y.1) fun c => fL (vadd x.2 y.2) fun l => (c, l)
def lscale (k : Int) (x : LF) : LF := fint (k * x.1) fun c => fL (vscale k x.2) fun l => (c, l)
def unitA (e : IE) : List IE → Option (List Int)
  | [] => none
  | a :: l => if a.beq e then some [1] else (match unitA e l with
    | some v => some (0 :: v)
    | none => none)
def unitL (as : List IE) (e : IE) : Option LF := match unitA e as with
  | some v => some (0, v)
  | none => none
def oladd : Option LF → Option LF → Option LF
  | some a, some b => some (ladd a b)
  | _, _ => none
def olscale (k : Int) : Option LF → Option LF
  | some a => some (lscale k a)
  | none => none
def linOf (as : List IE) : IE → Option LF
  | .lit n => some (n, [])
  | .add x y => oladd (linOf as x) (linOf as y)
  | .sub x y => oladd (linOf as x) (olscale (-1) (linOf as y))
  | .mul x y => (match x with
    | .lit c => olscale c (linOf as y)
    | x => match y with
      | .lit c => olscale c (linOf as x)
      | y => unitL as (.mul x y))
  | .var k n => unitL as (.var k n)
  | .wrap k x => unitL as (.wrap k x)
  | .bin o k x y => unitL as (.bin o k x y)
  | .cel k l i j => unitL as (.cel k l i j)
  | .len l => unitL as (.len l)
  | .rcap r => unitL as (.rcap r)
  | .fn k n a => unitL as (.fn k n a)
  | .ite c x y => unitL as (.ite c x y)
/-- x ≤ y, as a form that is not below nought. -/
def leL (as : List IE) (x y : IE) : Option LF := oladd (linOf as y) (olscale (-1) (linOf as x))
def ltL (as : List IE) (x y : IE) : Option LF := oladd (some (-1, [])) (leL as x y)
def consO (o : Option LF) (cs : List LF) : List LF := match o with
  | some c => c :: cs
  | none => cs
def consOf (as : List IE) : BE → List LF → List LF
  | .le x y, cs => consO (leL as x y) cs
  | .eq x y, cs => consO (leL as x y) (consO (leL as y x) cs)
  | .not (.le x y), cs => consO (ltL as y x) cs
  | .and p q, cs => consOf as q (consOf as p cs)
  | _, cs => cs
def atomI : IE → Bool
  | .lit _ => false
  | .add _ _ => false
  | .sub _ _ => false
  | .mul _ _ => false
  | _ => true
/-- A bound of one thing by a number: the ranges have it. -/
def plainB : BE → Bool
  | .le (.lit _) y => atomI y
  | .le x (.lit _) => atomI x
  | .not (.le (.lit _) y) => atomI y
  | .not (.le x (.lit _)) => atomI x
  | _ => false
def consAll (as : List IE) : List BE → List LF → List LF
  | [], cs => cs
  | p :: pc, cs => consAll as pc (if plainB p then cs else consOf as p cs)
def bounds (pc : List BE) (as : List IE) : List IE → List LF → List LF
  | [], cs => cs
  | e :: l, cs => bounds pc as l (consO (match (rng pc e).1 with
    | some a => leL as (.lit a) e
    | none => none) (consO (match (rng pc e).2 with
    | some b => leL as e (.lit b)
    | none => none) cs))
def hd0 : List Int → Int
  | [] => 0
  | a :: _ => a
def tl0 : List Int → List Int
  | [] => []
  | _ :: l => l
/-- The constraints by their head's sign: nought, above, below. -/
def split3 : List LF → List LF → List LF → List LF → List LF × List LF × List LF
  | [], z, p, n => (z, p, n)
  | c :: cs, z, p, n => (match hd0 c.2 with
    | .ofNat 0 => split3 cs ((c.1, tl0 c.2) :: z) p n
    | .ofNat (_ + 1) => split3 cs z (c :: p) n
    | .negSucc _ => split3 cs z p (c :: n))
def combo (p n : LF) : LF := match ladd (lscale (-(hd0 n.2)) p) (lscale (hd0 p.2) n) with
  | (c, l) => (c, tl0 l)
def combos1 (p : LF) : List LF → List LF → List LF
  | [], acc => acc
  | n :: ns, acc => combos1 p ns (combo p n :: acc)
def combos : List LF → List LF → List LF → List LF
  | [], _, acc => acc
  | p :: ps, ns, acc => combos ps ns (combos1 p ns acc)
def anyNeg : List LF → Bool
  | [] => false
  | c :: cs => (match c.1, c.2 with
    | .negSucc _, [] => true
    | _, _ => anyNeg cs)
def fmGo : Nat → List LF → Bool
  | 0, cs => anyNeg cs
  | k + 1, cs => (match split3 cs [] [] [] with
    | (z, p, n) => fmGo k (if Nat.ble (p.length * n.length) 64 then combos p n z else z))
def refutes (k : Nat) (o : Option LF) (cs : List LF) : Bool := match o with
  | some c => fmGo k (c :: cs)
  | none => false
def fmOn : List BE → Bool
  | [] => false
  | .lit true :: _ => true
  | _ :: pc => fmOn pc
def leF (pc : List BE) (x y : IE) : Option Bool :=
  if fmOn pc then
    fL (growA (growA (growA (atomsOf y (atomsOf x [])) pc) pc) pc) fun as =>
      fL (bounds pc as as (consAll as pc [])) fun cs =>
        if refutes as.length (ltL as y x) cs then some true
        else if refutes as.length (leL as x y) cs then some false
        else none
  else none
def eqF (pc : List BE) (x y : IE) : Option Bool :=
  match leF pc x y with
  | some false => some false
  | some true => leF pc y x
  | none => (match leF pc y x with
    | some false => some false
    | _ => none)
def wrapK (k : IntKind) (pc : List BE) (e : IE) : IE := if oin k (rng pc e) then e else (match leF pc (.lit (kmin k)) e with
  | some true => (match leF pc e (.lit (kmax k)) with
    | some true => e
    | _ => .wrap k e)
  | _ => .wrap k e)
def litK (k : IntKind) (n : Int) : IE := if ileb (kmin k) n then (if ileb n (kmax k) then .lit n else fint (k.wrap n) .lit) else fint (k.wrap n) .lit
def mkAdd (k : IntKind) (pc : List BE) (x y : IE) : IE :=
  match x, y with
  | .lit a, .lit b => fint (a + b) (litK k)
  | x, y => wrapK k pc (.add x y)
def mkSub (k : IntKind) (pc : List BE) (x y : IE) : IE :=
  match x, y with
  | .lit a, .lit b => fint (a - b) (litK k)
  | x, y => wrapK k pc (.sub x y)
def mkMul (k : IntKind) (pc : List BE) (x y : IE) : IE :=
  match x, y with
  | .lit a, .lit b => fint (a * b) (litK k)
  | x, y => wrapK k pc (.mul x y)
def mkBin (op : BinOp) (k : IntKind) (x y : IE) : IE :=
  match x, y with
  | .lit a, .lit b => fint (binI op k a b) .lit
  | x, y => .bin op k x y
def mkConv (k : IntKind) (pc : List BE) (x : IE) : IE :=
  match x with
  | .lit a => litK k a
  | x => wrapK k pc x

def fIE {β : Type} : IE → (IE → β) → β
  | .lit n, k => fint n fun n => k (.lit n)
  | .add x y, k => fIE x fun x => fIE y fun y => k (.add x y)
  | .sub x y, k => fIE x fun x => fIE y fun y => k (.sub x y)
  | .mul x y, k => fIE x fun x => fIE y fun y => k (.mul x y)
  | .wrap w x, k => fIE x fun x => k (.wrap w x)
  | .bin op w x y, k => fIE x fun x => fIE y fun y => k (.bin op w x y)
  | .var w n, k => k (.var w n)
  | .cel w l i j, k => fIE i fun i => k (.cel w l i j)
  | e, k => k e
def fBE {β : Type} : BE → (BE → β) → β
  | .lit b, k => (match b with
    | true => k (.lit true)
    | false => k (.lit false))
  | .le x y, k => fIE x fun x => fIE y fun y => k (.le x y)
  | .eq x y, k => fIE x fun x => fIE y fun y => k (.eq x y)
  | .not x, k => fBE x fun x => k (.not x)
  | .and x y, k => fBE x fun x => fBE y fun y => k (.and x y)
  | .iff x y, k => fBE x fun x => fBE y fun y => k (.iff x y)
  | .cel l i j, k => fIE i fun i => k (.cel l i j)
  | c, k => k c
def fSV {β : Type} (v : SV) (k : SV → β) : β :=
  match v with
  | .int w e => fIE e fun e => k (.int w e)
  | .bool b => fBE b fun b => k (.bool b)
  | .ptr n off => fnat n fun n => fnat off fun off => k (.ptr n off)
  | .rom r off len cap => fIE off fun off => fIE len fun len => k (.rom r off len cap)
  | .rptr r i c => fIE i fun i => fnat c fun c => k (.rptr r i c)
  | .sll n cn sz off len cap => fIE off fun off => fIE len fun len => k (.sll n cn sz off len cap)
  | .lptr n sz i c => fIE i fun i => fnat c fun c => k (.lptr n sz i c)
  | v => k v
/- whether a test is decided -/
def hasB (c : BE) : List BE → Option Bool
  | [] => none
  | p :: pc => if p.beq c then some true else (match p with
    | .not q => if q.beq c then some false else hasB c pc
    | _ => hasB c pc)
def leR : Option Int × Option Int → Option Int × Option Int → Option Bool
  | (lx, hx), (ly, hy) =>
    match (match hx, ly with | some a, some b => ileb a b | _, _ => false) with
    | true => some true
    | false => match (match hy, lx with | some a, some b => (if ileb b a then false else true) | _, _ => false) with
      | true => some false
      | false => none
def eqR : Option Int × Option Int → Option Int × Option Int → Option Bool
  | (some lx, some hx), (some ly, some hy) =>
    if ileb lx hy then (if ileb ly hx then (if ileb hx ly then (if ileb hy lx then some true else none) else none) else some false) else some false
  | _, _ => none
def oorelse : Option Bool → Option Bool → Option Bool
  | some b, _ => some b
  | none, o => o
def leB (pc : List BE) (x y : IE) : Option Bool := oorelse (hasB (.le x y) pc) (match hasB (.le y x) pc with
  | some false => some true
  | _ => none)
def eqB (pc : List BE) (x y : IE) : Option Bool := oorelse (hasB (.eq x y) pc) (hasB (.eq y x) pc)
def leE (pc : List BE) (x y : IE) : Option Bool :=
  match eqB pc x y with
  | some true => some true
  | some false => (match leB pc y x with
    | some true => some false
    | _ => none)
  | none => none
def eqL (pc : List BE) (x y : IE) : Option Bool :=
  match leB pc x y with
  | some true => (match leB pc y x with
    | some b => some b
    | none => none)
  | some false => some false
  | none => (match leB pc y x with
    | some false => some false
    | _ => none)
def dec (pc : List BE) : BE → Option Bool
  | .lit b => some b
  | .var n => hasB (.var n) pc
  | .cel l i j => hasB (.cel l i j) pc
  | .leq a b => if a.beq b then some true else hasB (.leq a b) pc
  | .rnil r => hasB (.rnil r) pc
  | .fn n a => hasB (.fn n a) pc
  | .le x y => if x.beq y then some true else oorelse (leR (rng pc x) (rng pc y)) (oorelse (leB pc x y) (oorelse (leE pc x y) (leF pc x y)))
  | .eq x y => if x.beq y then some true else oorelse (eqR (rng pc x) (rng pc y)) (oorelse (eqB pc x y) (oorelse (eqL pc x y) (eqF pc x y)))
  | .not x => match dec pc x with
    | some b => some (!b)
    | none => none
  | .and x y => match dec pc x with
    | some false => some false
    | some true => dec pc y
    | none => match dec pc y with
      | some false => some false
      | _ => none
  | .iff x y => match dec pc x, dec pc y with
    | some a, some b => some (a == b)
    | _, _ => none
/-- The first part of a test that is not decided. -/
def atom (pc : List BE) : BE → BE
  | .not x => atom pc x
  | .and x y => match dec pc x with
    | none => atom pc x
    | _ => atom pc y
  | .iff x y => match dec pc x with
    | none => atom pc x
    | _ => atom pc y
  | c => c
def mkNot : BE → BE
  | .lit b => .lit (!b)
  | .not x => x
  | x => .not x
def mkEq : IE → IE → BE
  | .lit a, .lit b => .lit (ieqb a b)
  | .lit a, y => .eq y (.lit a)
  | x, y => .eq x y
def mkLe : IE → IE → BE
  | .lit a, .lit b => .lit (ileb a b)
  | x, y => .le x y
def mkIff : BE → BE → BE
  | x, .lit true => x
  | x, .lit false => mkNot x
  | .lit true, y => y
  | .lit false, y => mkNot y
  | x, y => .iff x y
def mkAnd : BE → BE → BE
  | .lit true, y => y
  | .lit false, _ => .lit false
  | x, .lit true => x
  | x, y => .and x y

/- tables -/
inductive ST where
  | int (k : IntKind)
  | bool
  | slice (e : TypeId)
  | arr (n : Nat) (e : TypeId)
  | struct (fs : List (Nat × TypeId))
  | str
  | ptr
  | func
  | iface
  | map (k e : TypeId)
  | other
structure TI where
  und : ST
  size : Nat
  bytes : Nat
  zero : List SV
  agg : Bool
inductive BT (α : Type) where
  | nil
  | node (l : BT α) (n : Nat) (v : α) (r : BT α)
def BT.get {α : Type} : BT α → Nat → Option α
  | .nil, _ => none
  | .node l n v r, k => if Nat.beq n k then some v else if Nat.ble k n then l.get k else r.get k
/-- What a call of a function gives: one of two values, by a test. -/
structure Orac where
  f : FuncId
  args : List SV
  c : BE
  yes : SV
  no : SV
/-- What a call of a function gives, told ahead: its arguments by letters, what is asked of them, what it gives, new things in memory, what is known then. -/
structure Ctr where
  f : FuncId
  pat : List SV
  roms : List (Nat × (Nat × List CK))
  pre : List BE
  res : SV
  heap : List (Nat × SObj)
  cnt : Nat
  post : List BE
structure Orc where
  F : Fns
  l : List Orac
  rom : List (Nat × (Nat × List CK))
  ctr : List Ctr
structure Tab where
  ty : BT TI
  fn : BT Func
  eqs : List (Nat × List CK)
  orac : Orc

def IE.beqL : List IE → List IE → Bool
  | [], [] => true
  | a :: l, b :: m => if a.beq b then IE.beqL l m else false
  | _, _ => false
def capBeq : Option IE → Option IE → Bool
  | none, none => true
  | some a, some b => a.beq b
  | _, _ => false
mutual
def SV.beq : SV → SV → Bool
  | .bool a, .bool b => a.beq b
  | .int k a, .int j b => if keq k j then a.beq b else false
  | .ptr n o, .ptr m p => if Nat.beq n m then Nat.beq o p else false
  | .slice n o l c, .slice m p k d => if Nat.beq n m then (if Nat.beq o p then (if Nat.beq l k then Nat.beq c d else false) else false) else false
  | .agg a, .agg b => SV.beqL a b
  | .tup a, .tup b => SV.beqL a b
  | .opq n, .opq m => Nat.beq n m
  | .iface t a, .iface u b => if Nat.beq t u then SV.beq a b else false
  | .const .nilFunc, .const .nilFunc => true
  | .const .nilIface, .const .nilIface => true
  | .const (.pointer none), .const (.pointer none) => true
  | .const (.map none), .const (.map none) => true
  | .const (.slice none 0 0), .const (.slice none 0 0) => true
  | .func (.func f) a b, .func (.func g) c d => if Nat.beq f g then (if SV.beqL a c then SV.beqL b d else false) else false
  | .func (.yield f) a b, .func (.yield g) c d => if Nat.beq f g then (if SV.beqL a c then SV.beqL b d else false) else false
  | .str a, .str b => IE.beqL a b
  | .sl n c z o l, .sl m d y p k => if Nat.beq n m then (if Nat.beq c d then (if Nat.beq z y then (if Nat.beq o p then Nat.beq l k else false) else false) else false) else false
  | .rom r a b x, .rom q c d y => if Nat.beq r q then (if a.beq c then (if b.beq d then capBeq x y else false) else false) else false
  | .rptr r a i, .rptr q b j => if Nat.beq r q then (if Nat.beq i j then a.beq b else false) else false
  | .sll n c z a b x, .sll m d w e f y => if Nat.beq n m then (if Nat.beq c d then (if Nat.beq z w then (if a.beq e then (if b.beq f then capBeq x y else false) else false) else false) else false) else false
  | .lptr n z a i, .lptr m w b j => if Nat.beq n m then (if Nat.beq z w then (if Nat.beq i j then a.beq b else false) else false) else false
  | .lstr a, .lstr b => a.beq b
  | .cel l i n, .cel m p q => if Nat.beq n q then (if i.beq p then l.beq m else false) else false
  | _, _ => false
def SV.beqL : List SV → List SV → Bool
  | [], [] => true
  | a :: l, b :: m => if SV.beq a b then SV.beqL l m else false
  | _, _ => false
end
def ofBytes : List UInt8 → List IE
  | [] => []
  | b :: l => fnat b.toNat fun n => .lit (.ofNat n) :: ofBytes l
def ofScalar : Value → SV
  | .int k n => .int k (.lit n)
  | .bool b => .bool (.lit b)
  | .string s => .str (ofBytes s.data.toList)
  | v => .const v
def ofConst : Value → SV
  | .int k n => .int k (.lit n)
  | .bool b => .bool (.lit b)
  | .string s => .str (ofBytes s.data.toList)
  | .agg cs => .agg (cs.toList.map ofScalar)
  | .tuple vs => if vs.size = 0 then .tup [] else .const (.tuple vs)
  | v => .const v
def SV.cells : SV → Option (List SV)
  | .agg cs => some cs
  | .opq _ => none
  | .const (.agg _) => none
  | .cel _ _ _ => none
  | v => some [v]
def SV.one : SV → Bool
  | .agg _ => false
  | .tup _ => false
  | .opq _ => false
  | .const (.agg _) => false
  | .const (.tuple _) => false
  | .cel _ _ _ => false
  | _ => true
def findO (f : FuncId) (args : List SV) : List Orac → Option Orac
  | [] => none
  | o :: l => if Nat.beq o.f f then (if SV.beqL o.args args then some o else findO f args l) else findO f args l
end Go.Proofs.Ytjgkaimgocnkmab.Sx
