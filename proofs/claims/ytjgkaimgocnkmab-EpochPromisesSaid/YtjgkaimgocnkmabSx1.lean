/- A reckoner of Go's small steps over letters: its data and its rules. No condition. -/
import Derived.Calls
import Derived.Scope
import Derived.KernelRfl
import Derived.IntWalk
set_option linter.unusedVariables false
set_option linter.unusedSimpArgs false
namespace Go.Proofs.Ytjgkaimgocnkmab.Sx
open Go

structure Rho where
  i : IntKind → Nat → Int
  b : Nat → Bool
  v : Nat → Value
  a : Nat → Nat

inductive IE where
  | lit (n : Int)
  | var (k : IntKind) (n : Nat)
  | add (x y : IE)
  | sub (x y : IE)
  | mul (x y : IE)
  | wrap (k : IntKind) (x : IE)
  | bin (op : BinOp) (k : IntKind) (x y : IE)
inductive BE where
  | lit (b : Bool)
  | var (n : Nat)
  | le (x y : IE)
  | eq (x y : IE)
  | not (x : BE)
  | and (x y : BE)
  | iff (x y : BE)
inductive SV where
  | bool (b : BE)
  | int (k : IntKind) (e : IE)
  | ptr (n off : Nat)
  | slice (n off len cap : Nat)
  | func (fn : Fn) (first captured : List SV)
  | iface (t : TypeId) (v : SV)
  | agg (cs : List SV)
  | tup (vs : List SV)
  | opq (n : Nat)
  | const (v : Value)
instance : Inhabited SV := ⟨.tup []⟩
/-- A frame's slots, in eights. -/
abbrev Slots := List (List SV)
inductive SObj where
  | cells (cs : List SV) (t : TypeId)
  | loop (st : LoopState) (pending : Option Code) (fn : FuncId) (tmps : Slots) (params : List Tmp) (assign body : Code) (defers : Nat)
  | defd (stands : Bool)
inductive SItem where
  | code (c : Code)
  | inBlock (id : Nat)
  | inLoop (body : Code)
  | inScope (body : Code)
  | inRegion (ops : Array Oper) (rest : List Nat)
  | inRange (n : Nat)
  | endRange (n : Nat)
  | beginRound
structure SFrame where
  fn : FuncId
  tmps : Slots
  todo : List SItem
  defers : List Nat
  ret : Bool
  round : Option Nat
abbrev SHeap := List (Nat × SObj)
structure Cfg where
  top : SFrame
  rest : List SFrame
  heap : SHeap
  next : Nat
  pc : List BE

/- lists, by their eliminators: the kernel goes over them fast -/
noncomputable def nth {α : Type} (l : List α) : Nat → Option α := List.rec (motive := fun _ => Nat → Option α) (fun _ => none) (fun x _ ih n => Nat.rec (motive := fun _ => Option α) (some x) (fun m _ => ih m) n) l
noncomputable def put {α : Type} (l : List α) : Nat → α → List α := List.rec (motive := fun _ => Nat → α → List α) (fun _ _ => []) (fun x xs ih n v => Nat.rec (motive := fun _ => List α) (v :: xs) (fun m _ => x :: ih m v) n) l
noncomputable def lk {α : Type} (l : List (Nat × α)) : Nat → Option α := List.rec (motive := fun _ => Nat → Option α) (fun _ => none) (fun x _ ih n => Bool.rec (motive := fun _ => Option α) (ih n) (some x.2) (Nat.beq x.1 n)) l
noncomputable def up {α : Type} (l : List (Nat × α)) : Nat → α → List (Nat × α) := List.rec (motive := fun _ => Nat → α → List (Nat × α)) (fun _ _ => []) (fun x xs ih n v => Bool.rec (motive := fun _ => List (Nat × α)) (x :: ih n v) ((n, v) :: xs) (Nat.beq x.1 n)) l
def fnat {β : Type} (n : Nat) (k : Nat → β) : β := match n with
  | 0 => k 0
  | m + 1 => k (m + 1)
def fint {β : Type} (n : Int) (k : Int → β) : β := match n with
  | .ofNat m => fnat m fun m => k (.ofNat m)
  | .negSucc m => fnat m fun m => k (.negSucc m)
noncomputable def get2 (t : Slots) (i : Nat) : Option SV := match nth t (Nat.div i 8) with
  | some c => nth c (Nat.mod i 8)
  | none => none
noncomputable def put2 (t : Slots) (i : Nat) (v : SV) : Slots := match nth t (Nat.div i 8) with
  | some c => put t (Nat.div i 8) (put c (Nat.mod i 8) v)
  | none => t
def chunk : Nat → List SV → Slots
  | 0, _ => []
  | _ + 1, [] => []
  | n + 1, a :: b :: c :: d :: e :: f :: g :: h :: l => [a, b, c, d, e, f, g, h] :: chunk n l
  | _ + 1, l => [l]
def ileb : Int → Int → Bool
  | .ofNat a, .ofNat b => Nat.ble a b
  | .ofNat _, .negSucc _ => false
  | .negSucc _, .ofNat _ => true
  | .negSucc a, .negSucc b => Nat.ble b a
def ieqb : Int → Int → Bool
  | .ofNat a, .ofNat b => Nat.beq a b
  | .negSucc a, .negSucc b => Nat.beq a b
  | _, _ => false
def kno : IntKind → Nat
  | .i8 => 0 | .i16 => 1 | .i32 => 2 | .i64 => 3 | .u8 => 4 | .u16 => 5 | .u32 => 6 | .u64 => 7
def keq (a b : IntKind) : Bool := Nat.beq (kno a) (kno b)
def kmin : IntKind → Int
  | .i8 => -128 | .i16 => -32768 | .i32 => -2147483648 | .i64 => -9223372036854775808 | _ => 0
def kmax : IntKind → Int
  | .i8 => 127 | .i16 => 32767 | .i32 => 2147483647 | .i64 => 9223372036854775807
  | .u8 => 255 | .u16 => 65535 | .u32 => 4294967295 | .u64 => 18446744073709551615
def bopno : BinOp → Nat
  | .add => 0 | .sub => 1 | .mul => 2 | .quo => 3 | .rem => 4 | .and => 5 | .or => 6 | .xor => 7 | .shl => 8 | .shr => 9 | .andNot => 10
  | .eql => 11 | .neq => 12 | .lss => 13 | .leq => 14 | .gtr => 15 | .geq => 16
/-- The integer that an operation gives. -/
def binI (op : BinOp) (k : IntKind) (x y : Int) : Int :=
  match op with
  | .quo => k.wrap (x.tdiv y)
  | .rem => x.tmod y
  | .and => k.wrap ((BitVec.ofInt k.bits x &&& BitVec.ofInt k.bits y).toNat)
  | .or => k.wrap ((BitVec.ofInt k.bits x ||| BitVec.ofInt k.bits y).toNat)
  | .xor => k.wrap ((BitVec.ofInt k.bits x ^^^ BitVec.ofInt k.bits y).toNat)
  | .andNot => k.wrap ((BitVec.ofInt k.bits x &&& ~~~BitVec.ofInt k.bits y).toNat)
  | .shl => k.wrap (x * 2 ^ (min y.toNat k.bits))
  | .shr => x.fdiv (2 ^ (min y.toNat k.bits))
  | _ => 0

def IE.den (ρ : Rho) : IE → Int
  | .lit n => n
  | .var k n => ρ.i k n
  | .add x y => x.den ρ + y.den ρ
  | .sub x y => x.den ρ - y.den ρ
  | .mul x y => x.den ρ * y.den ρ
  | .wrap k x => k.wrap (x.den ρ)
  | .bin op k x y => binI op k (x.den ρ) (y.den ρ)
def BE.den (ρ : Rho) : BE → Bool
  | .lit b => b
  | .var n => ρ.b n
  | .le x y => decide (x.den ρ ≤ y.den ρ)
  | .eq x y => decide (x.den ρ = y.den ρ)
  | .not x => !x.den ρ
  | .and x y => x.den ρ && y.den ρ
  | .iff x y => x.den ρ == y.den ρ
def fnDen (ρ : Rho) : Fn → Fn
  | .yield l => .yield (ρ.a l)
  | f => f
mutual
def SV.den (ρ : Rho) : SV → Value
  | .bool b => .bool (b.den ρ)
  | .int k e => .int k (e.den ρ)
  | .ptr n off => .pointer (some ⟨ρ.a n, off, none⟩)
  | .slice n off len cap => .slice (some ⟨ρ.a n, off, none⟩) len cap
  | .func fn f c => .func (fnDen ρ fn) (SV.denL ρ f).toArray (SV.denL ρ c).toArray
  | .iface t v => .iface t (v.den ρ)
  | .agg cs => .agg (SV.denL ρ cs).toArray
  | .tup vs => .tuple (SV.denL ρ vs).toArray
  | .opq n => ρ.v n
  | .const v => v
def SV.denL (ρ : Rho) : List SV → List Value
  | [] => []
  | v :: l => v.den ρ :: SV.denL ρ l
end

def IE.beq : IE → IE → Bool
  | .lit a, .lit b => ieqb a b
  | .var k n, .var j m => if Nat.beq n m then keq k j else false
  | .add a b, .add c d => if a.beq c then b.beq d else false
  | .sub a b, .sub c d => if a.beq c then b.beq d else false
  | .mul a b, .mul c d => if a.beq c then b.beq d else false
  | .wrap k a, .wrap j b => if keq k j then a.beq b else false
  | .bin o k a b, .bin p j c d => if Nat.beq (bopno o) (bopno p) then (if keq k j then (if a.beq c then b.beq d else false) else false) else false
  | _, _ => false
def BE.beq : BE → BE → Bool
  | .lit a, .lit b => a == b
  | .var n, .var m => Nat.beq n m
  | .le a b, .le c d => if a.beq c then b.beq d else false
  | .eq a b, .eq c d => if a.beq c then b.beq d else false
  | .not a, .not b => a.beq b
  | .and a b, .and c d => if a.beq c then b.beq d else false
  | .iff a b, .iff c d => if a.beq c then b.beq d else false
  | _, _ => false
def atB : BE → Bool
  | .lit _ => false
  | .not _ => false
  | .and _ _ => false
  | .iff _ _ => false
  | _ => true

/- what is known of an integer -/
def omax : Option Int → Int → Option Int
  | none, b => some b
  | some a, b => if ileb a b then some b else some a
def omin : Option Int → Int → Option Int
  | none, b => some b
  | some a, b => if ileb a b then some a else some b
/-- The least that is known, off the ways' tests. -/
def low1 (e : IE) (p : BE) (o : Option Int) : Option Int :=
  match p with
  | .not (.le x (.lit c)) => if x.beq e then fint (c + 1) (omax o) else o
  | .le (.lit c) y => if y.beq e then omax o c else o
  | .eq x (.lit c) => if x.beq e then omax o c else o
  | _ => o
def high1 (e : IE) (p : BE) (o : Option Int) : Option Int :=
  match p with
  | .le x (.lit c) => if x.beq e then omin o c else o
  | .not (.le (.lit c) y) => if y.beq e then fint (c - 1) (omin o) else o
  | .eq x (.lit c) => if x.beq e then omin o c else o
  | _ => o
def lows (pc : List BE) (e : IE) (o : Option Int) : Option Int := pc.foldr (low1 e) o
def highs (pc : List BE) (e : IE) (o : Option Int) : Option Int := pc.foldr (high1 e) o
def oadd : Option Int → Option Int → Option Int
  | some a, some b => fint (a + b) some
  | _, _ => none
def osub : Option Int → Option Int → Option Int
  | some a, some b => fint (a - b) some
  | _, _ => none
def oin (k : IntKind) : Option Int × Option Int → Bool
  | (some a, some b) => if ileb (kmin k) a then ileb b (kmax k) else false
  | _ => false
/-- Bounds of an integer. -/
def rng (pc : List BE) : IE → Option Int × Option Int
  | .lit n => (some n, some n)
  | .var k n => (lows pc (.var k n) (some (kmin k)), highs pc (.var k n) (some (kmax k)))
  | .add x y => (lows pc (.add x y) (oadd (rng pc x).1 (rng pc y).1), highs pc (.add x y) (oadd (rng pc x).2 (rng pc y).2))
  | .sub x y => (lows pc (.sub x y) (osub (rng pc x).1 (rng pc y).2), highs pc (.sub x y) (osub (rng pc x).2 (rng pc y).1))
  | .mul x y => (lows pc (.mul x y) none, highs pc (.mul x y) none)
  | .wrap k x => (lows pc (.wrap k x) (some (kmin k)), highs pc (.wrap k x) (some (kmax k)))
  | .bin op k x y => (lows pc (.bin op k x y) none, highs pc (.bin op k x y) none)
def wrapK (k : IntKind) (pc : List BE) (e : IE) : IE := if oin k (rng pc e) then e else .wrap k e
def litK (k : IntKind) (n : Int) : IE := if ileb (kmin k) n then (if ileb n (kmax k) then .lit n else .wrap k (.lit n)) else .wrap k (.lit n)
def mkAdd (k : IntKind) (pc : List BE) (x y : IE) : IE :=
  match x, y with
  | .lit a, .lit b => fint (a + b) (litK k)
  | x, y => wrapK k pc (.add x y)
def mkSub (k : IntKind) (pc : List BE) (x y : IE) : IE :=
  match x, y with
  | .lit a, .lit b => fint (a - b) (litK k)
  | x, y => wrapK k pc (.sub x y)
def mkMul (k : IntKind) (pc : List BE) (x y : IE) : IE :=
  match x, y with
  | .lit a, .lit b => fint (a * b) (litK k)
  | x, y => wrapK k pc (.mul x y)
def mkConv (k : IntKind) (pc : List BE) (x : IE) : IE :=
  match x with
  | .lit a => litK k a
  | x => wrapK k pc x

def fIE {β : Type} : IE → (IE → β) → β
  | .lit n, k => fint n fun n => k (.lit n)
  | .add x y, k => fIE x fun x => fIE y fun y => k (.add x y)
  | .sub x y, k => fIE x fun x => fIE y fun y => k (.sub x y)
  | .mul x y, k => fIE x fun x => fIE y fun y => k (.mul x y)
  | .wrap w x, k => fIE x fun x => k (.wrap w x)
  | .bin op w x y, k => fIE x fun x => fIE y fun y => k (.bin op w x y)
  | .var w n, k => k (.var w n)
def fBE {β : Type} : BE → (BE → β) → β
  | .lit b, k => (match b with
    | true => k (.lit true)
    | false => k (.lit false))
  | .le x y, k => fIE x fun x => fIE y fun y => k (.le x y)
  | .eq x y, k => fIE x fun x => fIE y fun y => k (.eq x y)
  | .not x, k => fBE x fun x => k (.not x)
  | .and x y, k => fBE x fun x => fBE y fun y => k (.and x y)
  | .iff x y, k => fBE x fun x => fBE y fun y => k (.iff x y)
  | .var n, k => k (.var n)
def fSV {β : Type} (v : SV) (k : SV → β) : β :=
  match v with
  | .int w e => fIE e fun e => k (.int w e)
  | .bool b => fBE b fun b => k (.bool b)
  | .ptr n off => fnat n fun n => fnat off fun off => k (.ptr n off)
  | v => k v
def fL {α β : Type} : List α → (List α → β) → β
  | [], k => k []
  | x :: l, k => fL l fun l => k (x :: l)
/- whether a test is decided -/
def hasB (c : BE) : List BE → Option Bool
  | [] => none
  | p :: pc => if p.beq c then some true else (match p with
    | .not q => if q.beq c then some false else hasB c pc
    | _ => hasB c pc)
def leR : Option Int × Option Int → Option Int × Option Int → Option Bool
  | (lx, hx), (ly, hy) =>
    match (match hx, ly with | some a, some b => ileb a b | _, _ => false) with
    | true => some true
    | false => match (match hy, lx with | some a, some b => (if ileb b a then false else true) | _, _ => false) with
      | true => some false
      | false => none
def eqR : Option Int × Option Int → Option Int × Option Int → Option Bool
  | (some lx, some hx), (some ly, some hy) =>
    if ileb lx hy then (if ileb ly hx then (if ileb hx ly then (if ileb hy lx then some true else none) else none) else some false) else some false
  | _, _ => none
def oorelse : Option Bool → Option Bool → Option Bool
  | some b, _ => some b
  | none, o => o
def leB (pc : List BE) (x y : IE) : Option Bool := oorelse (hasB (.le x y) pc) (match hasB (.le y x) pc with
  | some false => some true
  | _ => none)
def eqB (pc : List BE) (x y : IE) : Option Bool := oorelse (hasB (.eq x y) pc) (hasB (.eq y x) pc)
def leE (pc : List BE) (x y : IE) : Option Bool :=
  match eqB pc x y with
  | some true => some true
  | some false => (match leB pc y x with
    | some true => some false
    | _ => none)
  | none => none
def eqL (pc : List BE) (x y : IE) : Option Bool :=
  match leB pc x y with
  | some true => (match leB pc y x with
    | some b => some b
    | none => none)
  | some false => some false
  | none => (match leB pc y x with
    | some false => some false
    | _ => none)
def dec (pc : List BE) : BE → Option Bool
  | .lit b => some b
  | .var n => hasB (.var n) pc
  | .le x y => if x.beq y then some true else oorelse (leR (rng pc x) (rng pc y)) (oorelse (leB pc x y) (leE pc x y))
  | .eq x y => if x.beq y then some true else oorelse (eqR (rng pc x) (rng pc y)) (oorelse (eqB pc x y) (eqL pc x y))
  | .not x => match dec pc x with
    | some b => some (!b)
    | none => none
  | .and x y => match dec pc x with
    | some false => some false
    | some true => dec pc y
    | none => match dec pc y with
      | some false => some false
      | _ => none
  | .iff x y => match dec pc x, dec pc y with
    | some a, some b => some (a == b)
    | _, _ => none
/-- The first part of a test that is not decided. -/
def atom (pc : List BE) : BE → BE
  | .not x => atom pc x
  | .and x y => match dec pc x with
    | none => atom pc x
    | _ => atom pc y
  | .iff x y => match dec pc x with
    | none => atom pc x
    | _ => atom pc y
  | c => c
def mkNot : BE → BE
  | .lit b => .lit (!b)
  | .not x => x
  | x => .not x
def mkEq : IE → IE → BE
  | .lit a, .lit b => .lit (ieqb a b)
  | .lit a, y => .eq y (.lit a)
  | x, y => .eq x y
def mkLe : IE → IE → BE
  | .lit a, .lit b => .lit (ileb a b)
  | x, y => .le x y
def mkIff : BE → BE → BE
  | x, .lit true => x
  | x, .lit false => mkNot x
  | .lit true, y => y
  | .lit false, y => mkNot y
  | x, y => .iff x y
def mkAnd : BE → BE → BE
  | .lit true, y => y
  | .lit false, _ => .lit false
  | x, .lit true => x
  | x, y => .and x y

/- tables -/
inductive CK where
  | int (k : IntKind)
  | bool
inductive ST where
  | int (k : IntKind)
  | bool
  | slice (e : TypeId)
  | arr (n : Nat) (e : TypeId)
  | struct (fs : List (Nat × TypeId))
  | other
structure TI where
  und : ST
  size : Nat
  zero : List SV
  agg : Bool
inductive BT (α : Type) where
  | nil
  | node (l : BT α) (n : Nat) (v : α) (r : BT α)
def BT.get {α : Type} : BT α → Nat → Option α
  | .nil, _ => none
  | .node l n v r, k => if Nat.beq n k then some v else if Nat.ble k n then l.get k else r.get k
/-- What a call of a function gives: one of two values, by a test. -/
structure Orac where
  f : FuncId
  args : List SV
  c : BE
  yes : SV
  no : SV
structure Tab where
  ty : BT TI
  fn : BT Func
  eqs : List (Nat × List CK)
  orac : List Orac

mutual
def SV.beq : SV → SV → Bool
  | .bool a, .bool b => a.beq b
  | .int k a, .int j b => if keq k j then a.beq b else false
  | .ptr n o, .ptr m p => if Nat.beq n m then Nat.beq o p else false
  | .slice n o l c, .slice m p k d => if Nat.beq n m then (if Nat.beq o p then (if Nat.beq l k then Nat.beq c d else false) else false) else false
  | .agg a, .agg b => SV.beqL a b
  | .tup a, .tup b => SV.beqL a b
  | .opq n, .opq m => Nat.beq n m
  | .iface t a, .iface u b => if Nat.beq t u then SV.beq a b else false
  | _, _ => false
def SV.beqL : List SV → List SV → Bool
  | [], [] => true
  | a :: l, b :: m => if SV.beq a b then SV.beqL l m else false
  | _, _ => false
end
def ofScalar : Value → SV
  | .int k n => .int k (.lit n)
  | .bool b => .bool (.lit b)
  | v => .const v
def ofConst : Value → SV
  | .int k n => .int k (.lit n)
  | .bool b => .bool (.lit b)
  | .agg cs => .agg (cs.toList.map ofScalar)
  | .tuple vs => if vs.size = 0 then .tup [] else .const (.tuple vs)
  | v => .const v
def SV.cells : SV → Option (List SV)
  | .agg cs => some cs
  | .opq _ => none
  | .const (.agg _) => none
  | v => some [v]
def SV.one : SV → Bool
  | .agg _ => false
  | .tup _ => false
  | .opq _ => false
  | .const (.agg _) => false
  | .const (.tuple _) => false
  | _ => true
def findO (f : FuncId) (args : List SV) : List Orac → Option Orac
  | [] => none
  | o :: l => if Nat.beq o.f f then (if SV.beqL o.args args then some o else findO f args l) else findO f args l
end Go.Proofs.Ytjgkaimgocnkmab.Sx
