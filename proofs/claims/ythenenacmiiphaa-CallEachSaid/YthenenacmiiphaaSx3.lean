/- A reckoner of Go's small steps over letters: its data and its rules. No condition. -/
import Derived.Calls
import Derived.Scope
import Derived.KernelRfl
import Derived.IntWalk
import Derived.Orders
set_option linter.unusedVariables false
set_option linter.unusedSimpArgs false
namespace Go.Proofs.Ythenenacmiiphaa.Sx
open Go
abbrev LV := List (List Value)
inductive AV where
 | int (k : IntKind) (n : Int)
 | bool (b : Bool)
 | lst (l : LV)
 | val (v : Value)
structure Fns where
 i : Nat → List AV → Int
 b : Nat → List AV → Bool
 l : Nat → List AV → LV
 g : List (Nat × List Value)
structure Env where
 F : Fns
 rl : Nat → LV
 ra : Nat → Option Addr
 rb : Nat → Nat
 ro : Nat → Nat
 rc : Nat → Nat
 re : Nat → Nat
structure Rho where
 i : IntKind → Nat → Int
 b : Nat → Bool
 l : Nat → LV
 v : Nat → Value
 a : Nat → Nat
 z : Env

mutual
inductive IE where
 | lit (n : Int)
 | var (k : IntKind) (n : Nat)
 | add (x y : IE)
 | sub (x y : IE)
 | mul (x y : IE)
 | wrap (k : IntKind) (x : IE)
 | bin (op : BinOp) (k : IntKind) (x y : IE)
 | cel (k : IntKind) (l : LE) (i : IE) (j : Nat)
 | len (l : LE)
 | rcap (r : Nat)
 | fn (k : IntKind) (n : Nat) (a : AL)
 | ite (c : BE) (x y : IE)
inductive BE where
 | lit (b : Bool)
 | var (n : Nat)
 | le (x y : IE)
 | eq (x y : IE)
 | not (x : BE)
 | and (x y : BE)
 | iff (x y : BE)
 | cel (l : LE) (i : IE) (j : Nat)
 | leq (a b : LE)
 | rnil (r : Nat)
 | fn (n : Nat) (a : AL)
inductive LE where
 | nil
 | var (n : Nat)
 | rom (r : Nat)
 | cat (a b : LE)
 | one (c : AL)
 | set (a : LE) (i : IE) (c : AL)
 | take (a : LE) (i : IE)
 | drop (a : LE) (i : IE)
 | rep (c : AL) (n : IE)
 | str (a : LE) (i : IE) (j : Nat)
 | fn (n : Nat) (a : AL)
inductive AL where
 | nil
 | int (k : IntKind) (e : IE) (r : AL)
 | bool (b : BE) (r : AL)
 | lst (l : LE) (r : AL)
 | cel (l : LE) (i : IE) (j : Nat) (r : AL)
end
instance : Inhabited IE := ⟨.lit 0⟩
inductive SV where
 | bool (b : BE)
 | int (k : IntKind) (e : IE)
 | ptr (n off : Nat)
 | slice (n off len cap : Nat)
 | func (fn : Fn) (first captured : List SV)
 | iface (t : TypeId) (v : SV)
 | agg (cs : List SV)
 | tup (vs : List SV)
 | opq (n : Nat)
 | const (v : Value)
 | str (bs : List IE)
 | sl (n cn sz off len : Nat)
 | rom (r : Nat) (off len : IE) (cap : Option IE)
 | rptr (r : Nat) (i : IE) (c : Nat)
 | sll (n cn sz : Nat) (off len : IE) (cap : Option IE)
 | lptr (n sz : Nat) (i : IE) (c : Nat)
 | sle (n cn sz : Nat) (off l : IE)
 | lstr (l : LE)
 | cel (l : LE) (i : IE) (j : Nat)
 | map (n : Nat)
instance : Inhabited SV := ⟨.tup []⟩
abbrev Slots := List (List SV)
inductive CK where
 | int (k : IntKind)
 | bool
 | str
 | any
inductive SObj where
 | cells (cs : List SV) (t : TypeId)
 | row (cs : List SV) (t : TypeId) (cn sz : Nat)
 | rowl (c : LE) (tot : IE) (ks : List CK) (t : TypeId) (cn sz : Nat)
 | mix (pre : List SV) (c : LE) (len : Nat) (k : IntKind) (post : List SV) (t : TypeId)
 | loop (st : LoopState) (pending : Option Code) (fn : FuncId) (tmps : Slots) (params : List Tmp) (assign body : Code) (defers : Nat)
 | defd (stands : Bool)
 | mapo (ks vs : List SV) (bs : List Nat) (clk : Nat)
inductive SItem where
 | code (c : Code)
 | inBlock (id : Nat)
 | inLoop (body : Code)
 | inScope (body : Code)
 | inRegion (ops : Array Oper) (rest : List Nat)
 | inRange (n : Nat)
 | endRange (n : Nat)
 | beginRound
inductive SS where
 | run
 | ret
 | pan (v : SV) (rec : Bool)
structure SM where
 st : SS
 dfd : Bool
 dcs : List (Nat × (List SV × List SV))
instance : Coe Bool SM := ⟨fun b => match b with
 | false => ⟨.run, false, []⟩
 | true => ⟨.ret, false, []⟩⟩
def SM.to (m : SM) (s : SS) : SM := ⟨s, m.dfd, m.dcs⟩
structure SFrame where
 fn : FuncId
 tmps : Slots
 todo : List SItem
 defers : List Nat
 md : SM
 round : Option Nat
def panV : SV → Option SV
 | .iface t v => if Nat.beq t 4294967295 then some v else none
 | _ => none
def mkPan (v : SV) : SV := .iface 4294967295 v
abbrev SHeap := List (Nat × SObj)
structure Cfg where
 top : SFrame
 rest : List SFrame
 heap : SHeap
 next : Nat
 pc : List BE
noncomputable def nth {α : Type} (l : List α) : Nat → Option α := List.rec (motive := fun _ => Nat → Option α) (fun _ => none) (fun x _ ih n => Nat.rec (motive := fun _ => Option α) (some x) (fun m _ => ih m) n) l
noncomputable def put {α : Type} (l : List α) : Nat → α → List α := List.rec (motive := fun _ => Nat → α → List α) (fun _ _ => []) (fun x xs ih n v => Nat.rec (motive := fun _ => List α) (v :: xs) (fun m _ => x :: ih m v) n) l
noncomputable def lk {α : Type} (l : List (Nat × α)) : Nat → Option α := List.rec (motive := fun _ => Nat → Option α) (fun _ => none) (fun x _ ih n => Bool.rec (motive := fun _ => Option α) (ih n) (some x.2) (Nat.beq x.1 n)) l
noncomputable def up {α : Type} (l : List (Nat × α)) : Nat → α → List (Nat × α) := List.rec (motive := fun _ => Nat → α → List (Nat × α)) (fun _ _ => []) (fun x xs ih n v => Bool.rec (motive := fun _ => List (Nat × α)) (x :: ih n v) ((n, v) :: xs) (Nat.beq x.1 n)) l
def fnat {β : Type} (n : Nat) (k : Nat → β) : β := match n with
 | 0 => k 0
 | m + 1 => k (m + 1)
def fint {β : Type} (n : Int) (k : Int → β) : β := match n with
 | .ofNat m => fnat m fun m => k (.ofNat m)
 | .negSucc m => fnat m fun m => k (.negSucc m)
noncomputable def get2 (t : Slots) (i : Nat) : Option SV := match nth t (Nat.div i 8) with
 | some c => nth c (Nat.mod i 8)
 | none => none
noncomputable def put2 (t : Slots) (i : Nat) (v : SV) : Slots := match nth t (Nat.div i 8) with
 | some c => put t (Nat.div i 8) (put c (Nat.mod i 8) v)
 | none => t
def chunk : Nat → List SV → Slots
 | 0, _ => []
 | _ + 1, [] => []
 | n + 1, a :: b :: c :: d :: e :: f :: g :: h :: l => [a, b, c, d, e, f, g, h] :: chunk n l
 | _ + 1, l => [l]
def ileb : Int → Int → Bool
 | .ofNat a, .ofNat b => Nat.ble a b
 | .ofNat _, .negSucc _ => false
 | .negSucc _, .ofNat _ => true
 | .negSucc a, .negSucc b => Nat.ble b a
def ieqb : Int → Int → Bool
 | .ofNat a, .ofNat b => Nat.beq a b
 | .negSucc a, .negSucc b => Nat.beq a b
 | _, _ => false
def kno : IntKind → Nat
 | .i8 => 0 | .i16 => 1 | .i32 => 2 | .i64 => 3 | .u8 => 4 | .u16 => 5 | .u32 => 6 | .u64 => 7
def keq (a b : IntKind) : Bool := Nat.beq (kno a) (kno b)
def kmin : IntKind → Int
 | .i8 => -128 | .i16 => -32768 | .i32 => -2147483648 | .i64 => -9223372036854775808 | _ => 0
def kmax : IntKind → Int
 | .i8 => 127 | .i16 => 32767 | .i32 => 2147483647 | .i64 => 9223372036854775807
 | .u8 => 255 | .u16 => 65535 | .u32 => 4294967295 | .u64 => 18446744073709551615
def bopno : BinOp → Nat
 | .add => 0 | .sub => 1 | .mul => 2 | .quo => 3 | .rem => 4 | .and => 5 | .or => 6 | .xor => 7 | .shl => 8 | .shr => 9 | .andNot => 10
 | .eql => 11 | .neq => 12 | .lss => 13 | .leq => 14 | .gtr => 15 | .geq => 16
def binI (op : BinOp) (k : IntKind) (x y : Int) : Int :=
 match op with
 | .quo => k.wrap (x.tdiv y)
 | .rem => x.tmod y
 | .and => k.wrap ((BitVec.ofInt k.bits x &&& BitVec.ofInt k.bits y).toNat)
 | .or => k.wrap ((BitVec.ofInt k.bits x ||| BitVec.ofInt k.bits y).toNat)
 | .xor => k.wrap ((BitVec.ofInt k.bits x ^^^ BitVec.ofInt k.bits y).toNat)
 | .andNot => k.wrap ((BitVec.ofInt k.bits x &&& ~~~BitVec.ofInt k.bits y).toNat)
 | .shl => k.wrap (x * 2 ^ (min y.toNat k.bits))
 | .shr => x.fdiv (2 ^ (min y.toNat k.bits))
 | _ => 0
def bytesOf (l : List Int) : ByteArray := ⟨(l.map fun n => UInt8.ofNat n.toNat).toArray⟩
def intV : Value → Int
 | .int _ n => n
 | _ => 0
def boolV : Value → Bool
 | .bool b => b
 | _ => false
def strV : Value → LV
 | .string s => s.data.toList.map fun b => [.int .u8 b.toNat]
 | _ => []
def byteL (l : LV) : ByteArray := bytesOf (l.map fun c => intV (c.headD (.bool false)))
def AV.cell : AV → Value
 | .int k n => .int k n
 | .bool b => .bool b
 | .lst l => .string (byteL l)
 | .val v => v
def celV (l : LV) (i : Int) (j : Nat) : Value := (l.getD i.toNat []).getD j (.bool false)
def clampK (k : IntKind) (n : Int) : Int := if kmin k ≤ n ∧ n ≤ kmax k then n else 0
def lenV (l : LV) : Int := (l.length : Int)
noncomputable def eqV (a b : LV) : Bool := @decide (a = b) (Classical.propDecidable _)
mutual
noncomputable def IE.den (ρ : Rho) : IE → Int
 | .lit n => n
 | .var k n => ρ.i k n
 | .add x y => x.den ρ + y.den ρ
 | .sub x y => x.den ρ - y.den ρ
 | .mul x y => x.den ρ * y.den ρ
 | .wrap k x => k.wrap (x.den ρ)
 | .bin op k x y => binI op k (x.den ρ) (y.den ρ)
 | .cel k l i j => clampK k (intV (celV (l.den ρ) (i.den ρ) j))
 | .len l => lenV (l.den ρ)
 | .rcap r => (ρ.z.rc r : Int)
 | .fn k n a => clampK k (ρ.z.F.i n (a.den ρ))
 | .ite c x y => if c.den ρ then x.den ρ else y.den ρ
noncomputable def BE.den (ρ : Rho) : BE → Bool
 | .lit b => b
 | .var n => ρ.b n
 | .le x y => decide (x.den ρ ≤ y.den ρ)
 | .eq x y => decide (x.den ρ = y.den ρ)
 | .not x => !x.den ρ
 | .and x y => x.den ρ && y.den ρ
 | .iff x y => x.den ρ == y.den ρ
 | .cel l i j => boolV (celV (l.den ρ) (i.den ρ) j)
 | .leq a b => eqV (a.den ρ) (b.den ρ)
 | .rnil r => (ρ.z.ra r).isNone
 | .fn n a => ρ.z.F.b n (a.den ρ)
noncomputable def LE.den (ρ : Rho) : LE → LV
 | .nil => []
 | .var n => ρ.l n
 | .rom r => ρ.z.rl r
 | .cat a b => a.den ρ ++ b.den ρ
 | .one c => [(c.den ρ).map AV.cell]
 | .set a i c => (a.den ρ).set (i.den ρ).toNat ((c.den ρ).map AV.cell)
 | .take a i => (a.den ρ).take (i.den ρ).toNat
 | .drop a i => (a.den ρ).drop (i.den ρ).toNat
 | .rep c n => List.replicate (n.den ρ).toNat ((c.den ρ).map AV.cell)
 | .str a i j => strV (celV (a.den ρ) (i.den ρ) j)
 | .fn n a => ρ.z.F.l n (a.den ρ)
noncomputable def AL.den (ρ : Rho) : AL → List AV
 | .nil => []
 | .int k e r => .int k (e.den ρ) :: r.den ρ
 | .bool b r => .bool (b.den ρ) :: r.den ρ
 | .lst l r => .lst (l.den ρ) :: r.den ρ
 | .cel l i j r => .val (celV (l.den ρ) (i.den ρ) j) :: r.den ρ
end
def fnDen (ρ : Rho) : Fn → Fn
 | .yield l => .yield (ρ.a l)
 | f => f
noncomputable def capDen (ρ : Rho) (n : Nat) : Option IE → Nat
 | none => n
 | some e => (e.den ρ).toNat
mutual
noncomputable def SV.den (ρ : Rho) : SV → Value
 | .bool b => .bool (b.den ρ)
 | .int k e => .int k (e.den ρ)
 | .ptr n off => .pointer (some ⟨ρ.a n, off, none⟩)
 | .slice n off len cap => .slice (some ⟨ρ.a n, off, none⟩) len cap
 | .func fn f c => .func (fnDen ρ fn) (SV.denL ρ f).toArray (SV.denL ρ c).toArray
 | .iface t v => .iface t (v.den ρ)
 | .agg cs => .agg (SV.denL ρ cs).toArray
 | .tup vs => .tuple (SV.denL ρ vs).toArray
 | .opq n => ρ.v n
 | .const v => v
 | .str bs => .string (bytesOf (bs.map (IE.den ρ)))
 | .sl n cn sz off len => .slice (some ⟨ρ.a n, off * sz, none⟩) len (ρ.a cn - off)
 | .rom r off len cap => .slice ((ρ.z.ra r).map fun a => a.add ((off.den ρ).toNat * ρ.z.re r)) (len.den ρ).toNat (capDen ρ (ρ.z.rc r - (off.den ρ).toNat) cap)
 | .rptr r i c => .pointer (some ⟨ρ.z.rb r, ρ.z.ro r + (i.den ρ).toNat * ρ.z.re r + c, none⟩)
 | .sll n cn sz off len cap => .slice (some ⟨ρ.a n, (off.den ρ).toNat * sz, none⟩) (len.den ρ).toNat (capDen ρ (ρ.a cn - (off.den ρ).toNat) cap)
 | .lptr n sz i c => .pointer (some ⟨ρ.a n, (i.den ρ).toNat * sz + c, none⟩)
 | .sle n cn sz off l => .slice (some ⟨ρ.a n, ((off.den ρ).toNat + (if ρ.a cn - (off.den ρ).toNat = (l.den ρ).toNat then 0 else (l.den ρ).toNat)) * sz, none⟩) 0 (ρ.a cn - (off.den ρ).toNat - (l.den ρ).toNat)
 | .lstr l => .string (byteL (l.den ρ))
 | .cel l i j => celV (l.den ρ) (i.den ρ) j
 | .map n => .map (some (ρ.a n))
noncomputable def SV.denL (ρ : Rho) : List SV → List Value
 | [] => []
 | v :: l => v.den ρ :: SV.denL ρ l
end

mutual
def IE.beq : IE → IE → Bool
 | .lit a, .lit b => ieqb a b
 | .var k n, .var j m => if Nat.beq n m then keq k j else false
 | .add a b, .add c d => if a.beq c then b.beq d else false
 | .sub a b, .sub c d => if a.beq c then b.beq d else false
 | .mul a b, .mul c d => if a.beq c then b.beq d else false
 | .wrap k a, .wrap j b => if keq k j then a.beq b else false
 | .bin o k a b, .bin p j c d => if Nat.beq (bopno o) (bopno p) then (if keq k j then (if a.beq c then b.beq d else false) else false) else false
 | .cel k l i n, .cel j m p q => if Nat.beq n q then (if keq k j then (if i.beq p then l.beq m else false) else false) else false
 | .len l, .len m => l.beq m
 | .rcap r, .rcap q => Nat.beq r q
 | .fn k n a, .fn j m b => if keq k j then (if Nat.beq n m then a.beq b else false) else false
 | .ite c a b, .ite d e f => if c.beq d then (if a.beq e then b.beq f else false) else false
 | _, _ => false
def BE.beq : BE → BE → Bool
 | .lit a, .lit b => a == b
 | .var n, .var m => Nat.beq n m
 | .le a b, .le c d => if a.beq c then b.beq d else false
 | .eq a b, .eq c d => if a.beq c then b.beq d else false
 | .not a, .not b => a.beq b
 | .and a b, .and c d => if a.beq c then b.beq d else false
 | .iff a b, .iff c d => if a.beq c then b.beq d else false
 | .cel l i n, .cel m p q => if Nat.beq n q then (if i.beq p then l.beq m else false) else false
 | .leq a b, .leq c d => if a.beq c then b.beq d else false
 | .rnil r, .rnil q => Nat.beq r q
 | .fn n a, .fn m b => if Nat.beq n m then a.beq b else false
 | _, _ => false
def LE.beq : LE → LE → Bool
 | .nil, .nil => true
 | .var n, .var m => Nat.beq n m
 | .rom r, .rom q => Nat.beq r q
 | .cat a b, .cat c d => if a.beq c then b.beq d else false
 | .one c, .one d => c.beq d
 | .set a i c, .set b j d => if i.beq j then (if c.beq d then a.beq b else false) else false
 | .take a i, .take b j => if i.beq j then a.beq b else false
 | .drop a i, .drop b j => if i.beq j then a.beq b else false
 | .rep c n, .rep d m => if n.beq m then c.beq d else false
 | .str l i n, .str m p q => if Nat.beq n q then (if i.beq p then l.beq m else false) else false
 | .fn n a, .fn m b => if Nat.beq n m then a.beq b else false
 | _, _ => false
def AL.beq : AL → AL → Bool
 | .nil, .nil => true
 | .int k e r, .int j f q => if keq k j then (if e.beq f then r.beq q else false) else false
 | .bool a r, .bool b q => if a.beq b then r.beq q else false
 | .lst a r, .lst b q => if a.beq b then r.beq q else false
 | .cel l i n r, .cel m p o q => if Nat.beq n o then (if i.beq p then (if l.beq m then r.beq q else false) else false) else false
 | _, _ => false
end
def atB : BE → Bool
 | .lit _ => false
 | .not _ => false
 | .and _ _ => false
 | .iff _ _ => false
 | _ => true
def omax : Option Int → Int → Option Int
 | none, b => some b
 | some a, b => if ileb a b then some b else some a
def omin : Option Int → Int → Option Int
 | none, b => some b
 | some a, b => if ileb a b then some a else some b
def low1 (e : IE) (p : BE) (o : Option Int) : Option Int :=
 match p with
 | .not (.le x (.lit c)) => if x.beq e then fint (c + 1) (omax o) else o
 | .le (.lit c) y => if y.beq e then omax o c else o
 | .eq x (.lit c) => if x.beq e then omax o c else o
 | _ => o
def high1 (e : IE) (p : BE) (o : Option Int) : Option Int :=
 match p with
 | .le x (.lit c) => if x.beq e then omin o c else o
 | .not (.le (.lit c) y) => if y.beq e then fint (c - 1) (omin o) else o
 | .eq x (.lit c) => if x.beq e then omin o c else o
 | _ => o
def lows (pc : List BE) (e : IE) (o : Option Int) : Option Int := pc.foldr (low1 e) o
def highs (pc : List BE) (e : IE) (o : Option Int) : Option Int := pc.foldr (high1 e) o
def oadd : Option Int → Option Int → Option Int
 | some a, some b => fint (a + b) some
 | _, _ => none
def osub : Option Int → Option Int → Option Int
 | some a, some b => fint (a - b) some
 | _, _ => none
def oin (k : IntKind) : Option Int × Option Int → Bool
 | (some a, some b) => if ileb (kmin k) a then ileb b (kmax k) else false
 | _ => false
def nonneg : Option Int → Bool
 | some a => ileb 0 a
 | none => false
def upTo (k : IntKind) : Option Int → Bool
 | some a => ileb a (kmax k)
 | none => false
def maskOk (k : IntKind) : IE → Bool
 | .lit m => if ileb 0 m then ileb m (kmax k) else false
 | _ => false
def litO : IE → Option Int
 | .lit m => some m
 | _ => none
def above0 : Option Int → Bool
 | some a => ileb 1 a
 | none => false
def binLo (op : BinOp) (k : IntKind) (y : IE) (rx ry : Option Int × Option Int) : Option Int :=
 match op with
 | .quo => if nonneg rx.1 then (if nonneg ry.1 then (if upTo k rx.2 then some 0 else none) else none) else none
 | .rem => if nonneg rx.1 then some 0 else none
 | .and => if maskOk k y then some 0 else none
 | .shr => if nonneg rx.1 then some 0 else none
 | .or => some (kmin k)
 | .xor => some (kmin k)
 | .andNot => some (kmin k)
 | .shl => some (kmin k)
 | _ => none
def binHi (op : BinOp) (k : IntKind) (y : IE) (rx ry : Option Int × Option Int) : Option Int :=
 match op with
 | .quo => if nonneg rx.1 then (if nonneg ry.1 then (if upTo k rx.2 then rx.2 else none) else none) else none
 | .rem => if nonneg rx.1 then (if above0 ry.1 then (match ry.2 with
  | some b => fint (b - 1) (omin rx.2)
  | none => rx.2) else rx.2) else none
 | .and => if maskOk k y then litO y else none
 | .shr => if nonneg rx.1 then rx.2 else none
 | .or => some (kmax k)
 | .xor => some (kmax k)
 | .andNot => some (kmax k)
 | .shl => some (kmax k)
 | _ => none
def oboth (f : Option Int → Int → Option Int) : Option Int → Option Int → Option Int
 | some a, some b => f (some a) b
 | _, _ => none
def lenTop : LE → Option Int
 | .rom _ => some 9223372036854775807
 | .var _ => some 9223372036854775807
 | _ => none
def rng (pc : List BE) : IE → Option Int × Option Int
 | .lit n => (some n, some n)
 | .var k n => (lows pc (.var k n) (some (kmin k)), highs pc (.var k n) (some (kmax k)))
 | .add x y => (lows pc (.add x y) (oadd (rng pc x).1 (rng pc y).1), highs pc (.add x y) (oadd (rng pc x).2 (rng pc y).2))
 | .sub x y => (lows pc (.sub x y) (osub (rng pc x).1 (rng pc y).2), highs pc (.sub x y) (osub (rng pc x).2 (rng pc y).1))
 | .mul x y => (lows pc (.mul x y) none, highs pc (.mul x y) none)
 | .wrap k x => (lows pc (.wrap k x) (some (kmin k)), highs pc (.wrap k x) (some (kmax k)))
 | .bin op k x y => (lows pc (.bin op k x y) (binLo op k y (rng pc x) (rng pc y)), highs pc (.bin op k x y) (binHi op k y (rng pc x) (rng pc y)))
 | .cel k l i j => (lows pc (.cel k l i j) (some (kmin k)), highs pc (.cel k l i j) (some (kmax k)))
 | .fn k n a => (lows pc (.fn k n a) (some (kmin k)), highs pc (.fn k n a) (some (kmax k)))
 | .len l => (lows pc (.len l) (some 0), highs pc (.len l) (lenTop l))
 | .rcap r => (lows pc (.rcap r) (some 0), highs pc (.rcap r) none)
 | .ite c x y => (lows pc (.ite c x y) (oboth omin (rng pc x).1 (rng pc y).1), highs pc (.ite c x y) (oboth omax (rng pc x).2 (rng pc y).2))
def fL {α β : Type} : List α → (List α → β) → β
 | [], k => k []
 | x :: l, k => fL l fun l => k (x :: l)
def memA (e : IE) : List IE → Bool
 | [] => false
 | a :: l => if a.beq e then true else memA e l
def addA (e : IE) (as : List IE) : List IE := if memA e as then as else as ++ [e]
def atomsOf : IE → List IE → List IE
 | .lit _, as => as
 | .add x y, as => atomsOf y (atomsOf x as)
 | .sub x y, as => atomsOf y (atomsOf x as)
 | .mul x y, as => (match x with
  | .lit _ => atomsOf y as
  | x => match y with
   | .lit _ => atomsOf x as
   | y => addA (.mul x y) as)
 | .var k n, as => addA (.var k n) as
 | .wrap k x, as => addA (.wrap k x) as
 | .bin o k x y, as => addA (.bin o k x y) as
 | .cel k l i j, as => addA (.cel k l i j) as
 | .len l, as => addA (.len l) as
 | .rcap r, as => addA (.rcap r) as
 | .fn k n a, as => addA (.fn k n a) as
 | .ite c x y, as => addA (.ite c x y) as
def factAtoms : BE → List IE → List IE
 | .le x y, as => atomsOf y (atomsOf x as)
 | .eq x y, as => atomsOf y (atomsOf x as)
 | .not (.le x y), as => atomsOf y (atomsOf x as)
 | .and p q, as => factAtoms q (factAtoms p as)
 | _, as => as
def anyIn (as : List IE) : List IE → Bool
 | [] => false
 | e :: l => if memA e as then true else anyIn as l
def addAs (as : List IE) : List IE → List IE
 | [] => as
 | e :: l => addAs (addA e as) l
def growA (as : List IE) : List BE → List IE
 | [] => as
 | p :: pc => fL (factAtoms p []) fun l => if anyIn as l then fL (addAs as l) fun as => growA as pc else growA as pc
abbrev LF := Int × List Int
def vadd : List Int → List Int → List Int
 | [], m => m
 | a :: l, [] => a :: l
 | a :: l, b :: m => fint (a + b) fun c => c :: vadd l m
def vscale (k : Int) : List Int → List Int
 | [] => []
 | a :: l => fint (k * a) fun c => c :: vscale k l
def ladd (x y : LF) : LF := fint (x.1 + y.1) fun c => fL (vadd x.2 y.2) fun l => (c, l)
def lscale (k : Int) (x : LF) : LF := fint (k * x.1) fun c => fL (vscale k x.2) fun l => (c, l)
def unitA (e : IE) : List IE → Option (List Int)
 | [] => none
 | a :: l => if a.beq e then some [1] else (match unitA e l with
  | some v => some (0 :: v)
  | none => none)
def unitL (as : List IE) (e : IE) : Option LF := match unitA e as with
 | some v => some (0, v)
 | none => none
def oladd : Option LF → Option LF → Option LF
 | some a, some b => some (ladd a b)
 | _, _ => none
def olscale (k : Int) : Option LF → Option LF
 | some a => some (lscale k a)
 | none => none
def linOf (as : List IE) : IE → Option LF
 | .lit n => some (n, [])
 | .add x y => oladd (linOf as x) (linOf as y)
 | .sub x y => oladd (linOf as x) (olscale (-1) (linOf as y))
 | .mul x y => (match x with
  | .lit c => olscale c (linOf as y)
  | x => match y with
   | .lit c => olscale c (linOf as x)
   | y => unitL as (.mul x y))
 | .var k n => unitL as (.var k n)
 | .wrap k x => unitL as (.wrap k x)
 | .bin o k x y => unitL as (.bin o k x y)
 | .cel k l i j => unitL as (.cel k l i j)
 | .len l => unitL as (.len l)
 | .rcap r => unitL as (.rcap r)
 | .fn k n a => unitL as (.fn k n a)
 | .ite c x y => unitL as (.ite c x y)
def leL (as : List IE) (x y : IE) : Option LF := oladd (linOf as y) (olscale (-1) (linOf as x))
def ltL (as : List IE) (x y : IE) : Option LF := oladd (some (-1, [])) (leL as x y)
def consO (o : Option LF) (cs : List LF) : List LF := match o with
 | some c => c :: cs
 | none => cs
def consOf (as : List IE) : BE → List LF → List LF
 | .le x y, cs => consO (leL as x y) cs
 | .eq x y, cs => consO (leL as x y) (consO (leL as y x) cs)
 | .not (.le x y), cs => consO (ltL as y x) cs
 | .and p q, cs => consOf as q (consOf as p cs)
 | _, cs => cs
def atomI : IE → Bool
 | .lit _ => false
 | .add _ _ => false
 | .sub _ _ => false
 | .mul _ _ => false
 | _ => true
def plainB : BE → Bool
 | .le (.lit _) y => atomI y
 | .le x (.lit _) => atomI x
 | .not (.le (.lit _) y) => atomI y
 | .not (.le x (.lit _)) => atomI x
 | _ => false
def consAll (as : List IE) : List BE → List LF → List LF
 | [], cs => cs
 | p :: pc, cs => consAll as pc (if plainB p then cs else consOf as p cs)
def bounds (pc : List BE) (as : List IE) : List IE → List LF → List LF
 | [], cs => cs
 | e :: l, cs => bounds pc as l (consO (match (rng pc e).1 with
  | some a => leL as (.lit a) e
  | none => none) (consO (match (rng pc e).2 with
  | some b => leL as e (.lit b)
  | none => none) cs))
def hd0 : List Int → Int
 | [] => 0
 | a :: _ => a
def tl0 : List Int → List Int
 | [] => []
 | _ :: l => l
def split3 : List LF → List LF → List LF → List LF → List LF × List LF × List LF
 | [], z, p, n => (z, p, n)
 | c :: cs, z, p, n => (match hd0 c.2 with
  | .ofNat 0 => split3 cs ((c.1, tl0 c.2) :: z) p n
  | .ofNat (_ + 1) => split3 cs z (c :: p) n
  | .negSucc _ => split3 cs z p (c :: n))
def combo (p n : LF) : LF := match ladd (lscale (-(hd0 n.2)) p) (lscale (hd0 p.2) n) with
 | (c, l) => (c, tl0 l)
def combos1 (p : LF) : List LF → List LF → List LF
 | [], acc => acc
 | n :: ns, acc => combos1 p ns (combo p n :: acc)
def combos : List LF → List LF → List LF → List LF
 | [], _, acc => acc
 | p :: ps, ns, acc => combos ps ns (combos1 p ns acc)
def anyNeg : List LF → Bool
 | [] => false
 | c :: cs => (match c.1, c.2 with
  | .negSucc _, [] => true
  | _, _ => anyNeg cs)
def fmGo : Nat → List LF → Bool
 | 0, cs => anyNeg cs
 | k + 1, cs => (match split3 cs [] [] [] with
  | (z, p, n) => fmGo k (if Nat.ble (p.length * n.length) 64 then combos p n z else z))
def refutes (k : Nat) (o : Option LF) (cs : List LF) : Bool := match o with
 | some c => fmGo k (c :: cs)
 | none => false
def fmOn : List BE → Bool
 | [] => false
 | .lit true :: _ => true
 | _ :: pc => fmOn pc
def leF (pc : List BE) (x y : IE) : Option Bool :=
 if fmOn pc then
  fL (growA (growA (growA (atomsOf y (atomsOf x [])) pc) pc) pc) fun as =>
   fL (bounds pc as as (consAll as pc [])) fun cs =>
    if refutes as.length (ltL as y x) cs then some true
    else if refutes as.length (leL as x y) cs then some false
    else none
 else none
def eqF (pc : List BE) (x y : IE) : Option Bool :=
 match leF pc x y with
 | some false => some false
 | some true => leF pc y x
 | none => (match leF pc y x with
  | some false => some false
  | _ => none)
def wrapK (k : IntKind) (pc : List BE) (e : IE) : IE := if oin k (rng pc e) then e else (match leF pc (.lit (kmin k)) e with
 | some true => (match leF pc e (.lit (kmax k)) with
  | some true => e
  | _ => .wrap k e)
 | _ => .wrap k e)
def litK (k : IntKind) (n : Int) : IE := if ileb (kmin k) n then (if ileb n (kmax k) then .lit n else fint (k.wrap n) .lit) else fint (k.wrap n) .lit
def mkAdd (k : IntKind) (pc : List BE) (x y : IE) : IE :=
 match x, y with
 | .lit a, .lit b => fint (a + b) (litK k)
 | x, y => wrapK k pc (.add x y)
def mkSub (k : IntKind) (pc : List BE) (x y : IE) : IE :=
 match x, y with
 | .lit a, .lit b => fint (a - b) (litK k)
 | x, y => wrapK k pc (.sub x y)
def mkMul (k : IntKind) (pc : List BE) (x y : IE) : IE :=
 match x, y with
 | .lit a, .lit b => fint (a * b) (litK k)
 | x, y => wrapK k pc (.mul x y)
def mkBin (op : BinOp) (k : IntKind) (x y : IE) : IE :=
 match x, y with
 | .lit a, .lit b => fint (binI op k a b) .lit
 | x, y => .bin op k x y
def mkConv (k : IntKind) (pc : List BE) (x : IE) : IE :=
 match x with
 | .lit a => litK k a
 | .ite c a b => .ite c (wrapK k (c :: pc) a) (wrapK k (.not c :: pc) b)
 | x => wrapK k pc x

mutual
def fIE {β : Type} : IE → (IE → β) → β
 | .lit n, k => fint n fun n => k (.lit n)
 | .var w n, k => k (.var w n)
 | .add x y, k => fIE x fun x => fIE y fun y => k (.add x y)
 | .sub x y, k => fIE x fun x => fIE y fun y => k (.sub x y)
 | .mul x y, k => fIE x fun x => fIE y fun y => k (.mul x y)
 | .wrap w x, k => fIE x fun x => k (.wrap w x)
 | .bin op w x y, k => fIE x fun x => fIE y fun y => k (.bin op w x y)
 | .cel w l i j, k => fLE l fun l => fIE i fun i => k (.cel w l i j)
 | .len l, k => fLE l fun l => k (.len l)
 | .rcap r, k => k (.rcap r)
 | .fn w n a, k => fAL a fun a => k (.fn w n a)
 | .ite c x y, k => fBE c fun c => fIE x fun x => fIE y fun y => k (.ite c x y)
def fBE {β : Type} : BE → (BE → β) → β
 | .lit b, k => (match b with
  | true => k (.lit true)
  | false => k (.lit false))
 | .var n, k => k (.var n)
 | .le x y, k => fIE x fun x => fIE y fun y => k (.le x y)
 | .eq x y, k => fIE x fun x => fIE y fun y => k (.eq x y)
 | .not x, k => fBE x fun x => k (.not x)
 | .and x y, k => fBE x fun x => fBE y fun y => k (.and x y)
 | .iff x y, k => fBE x fun x => fBE y fun y => k (.iff x y)
 | .cel l i j, k => fLE l fun l => fIE i fun i => k (.cel l i j)
 | .leq x y, k => fLE x fun x => fLE y fun y => k (.leq x y)
 | .rnil r, k => k (.rnil r)
 | .fn n a, k => fAL a fun a => k (.fn n a)
def fLE {β : Type} : LE → (LE → β) → β
 | .nil, k => k .nil
 | .var n, k => k (.var n)
 | .rom r, k => k (.rom r)
 | .cat x y, k => fLE x fun x => fLE y fun y => k (.cat x y)
 | .one c, k => fAL c fun c => k (.one c)
 | .set x i c, k => fLE x fun x => fIE i fun i => fAL c fun c => k (.set x i c)
 | .take x i, k => fLE x fun x => fIE i fun i => k (.take x i)
 | .drop x i, k => fLE x fun x => fIE i fun i => k (.drop x i)
 | .rep c n, k => fAL c fun c => fIE n fun n => k (.rep c n)
 | .str x i j, k => fLE x fun x => fIE i fun i => k (.str x i j)
 | .fn n a, k => fAL a fun a => k (.fn n a)
def fAL {β : Type} : AL → (AL → β) → β
 | .nil, k => k .nil
 | .int w e r, k => fIE e fun e => fAL r fun r => k (.int w e r)
 | .bool b r, k => fBE b fun b => fAL r fun r => k (.bool b r)
 | .lst l r, k => fLE l fun l => fAL r fun r => k (.lst l r)
 | .cel l i j r, k => fLE l fun l => fIE i fun i => fAL r fun r => k (.cel l i j r)
end
def fSV {β : Type} (v : SV) (k : SV → β) : β :=
 match v with
 | .int w e => fIE e fun e => k (.int w e)
 | .bool b => fBE b fun b => k (.bool b)
 | .ptr n off => fnat n fun n => fnat off fun off => k (.ptr n off)
 | .rom r off len cap => fIE off fun off => fIE len fun len => k (.rom r off len cap)
 | .rptr r i c => fIE i fun i => fnat c fun c => k (.rptr r i c)
 | .sll n cn sz off len cap => fIE off fun off => fIE len fun len => k (.sll n cn sz off len cap)
 | .lptr n sz i c => fIE i fun i => fnat c fun c => k (.lptr n sz i c)
 | .sle n cn sz off l => fIE off fun off => fIE l fun l => k (.sle n cn sz off l)
 | v => k v
def hasB (c : BE) : List BE → Option Bool
 | [] => none
 | p :: pc => if p.beq c then some true else (match p with
  | .not q => if q.beq c then some false else hasB c pc
  | _ => hasB c pc)
def leR : Option Int × Option Int → Option Int × Option Int → Option Bool
 | (lx, hx), (ly, hy) =>
  match (match hx, ly with | some a, some b => ileb a b | _, _ => false) with
  | true => some true
  | false => match (match hy, lx with | some a, some b => (if ileb b a then false else true) | _, _ => false) with
   | true => some false
   | false => none
def eqR : Option Int × Option Int → Option Int × Option Int → Option Bool
 | (some lx, some hx), (some ly, some hy) =>
  if ileb lx hy then (if ileb ly hx then (if ileb hx ly then (if ileb hy lx then some true else none) else none) else some false) else some false
 | _, _ => none
def oorelse : Option Bool → Option Bool → Option Bool
 | some b, _ => some b
 | none, o => o
def leB (pc : List BE) (x y : IE) : Option Bool := oorelse (hasB (.le x y) pc) (match hasB (.le y x) pc with
 | some false => some true
 | _ => none)
def eqB (pc : List BE) (x y : IE) : Option Bool := oorelse (hasB (.eq x y) pc) (hasB (.eq y x) pc)
def leE (pc : List BE) (x y : IE) : Option Bool :=
 match eqB pc x y with
 | some true => some true
 | some false => (match leB pc y x with
  | some true => some false
  | _ => none)
 | none => none
def eqL (pc : List BE) (x y : IE) : Option Bool :=
 match leB pc x y with
 | some true => (match leB pc y x with
  | some b => some b
  | none => none)
 | some false => some false
 | none => (match leB pc y x with
  | some false => some false
  | _ => none)
def dec (pc : List BE) : BE → Option Bool
 | .lit b => some b
 | .var n => hasB (.var n) pc
 | .cel l i j => hasB (.cel l i j) pc
 | .leq a b => if a.beq b then some true else hasB (.leq a b) pc
 | .rnil r => hasB (.rnil r) pc
 | .fn n a => hasB (.fn n a) pc
 | .le x y => if x.beq y then some true else oorelse (leR (rng pc x) (rng pc y)) (oorelse (leB pc x y) (oorelse (leE pc x y) (leF pc x y)))
 | .eq x y => if x.beq y then some true else oorelse (eqR (rng pc x) (rng pc y)) (oorelse (eqB pc x y) (oorelse (eqL pc x y) (eqF pc x y)))
 | .not x => match dec pc x with
  | some b => some (!b)
  | none => none
 | .and x y => match dec pc x with
  | some false => some false
  | some true => dec pc y
  | none => match dec pc y with
   | some false => some false
   | _ => none
 | .iff x y => match dec pc x, dec pc y with
  | some a, some b => some (a == b)
  | _, _ => none
def atom (pc : List BE) : BE → BE
 | .not x => atom pc x
 | .and x y => match dec pc x with
  | none => atom pc x
  | _ => atom pc y
 | .iff x y => match dec pc x with
  | none => atom pc x
  | _ => atom pc y
 | c => c
def mkNot : BE → BE
 | .lit b => .lit (!b)
 | .not x => x
 | x => .not x
def mkEq : IE → IE → BE
 | .lit a, .lit b => .lit (ieqb a b)
 | .lit a, y => .eq y (.lit a)
 | x, y => .eq x y
def mkLe : IE → IE → BE
 | .lit a, .lit b => .lit (ileb a b)
 | x, y => .le x y
def mkIff : BE → BE → BE
 | x, .lit true => x
 | x, .lit false => mkNot x
 | .lit true, y => y
 | .lit false, y => mkNot y
 | x, y => .iff x y
def mkAnd : BE → BE → BE
 | .lit true, y => y
 | .lit false, _ => .lit false
 | x, .lit true => x
 | x, y => .and x y
inductive ST where
 | int (k : IntKind)
 | bool
 | slice (e : TypeId)
 | arr (n : Nat) (e : TypeId)
 | struct (fs : List (Nat × TypeId))
 | str
 | ptr
 | func
 | iface
 | map (k e : TypeId)
 | other
structure TI where
 und : ST
 size : Nat
 bytes : Nat
 zero : List SV
 agg : Bool
inductive BT (α : Type) where
 | nil
 | node (l : BT α) (n : Nat) (v : α) (r : BT α)
def BT.get {α : Type} : BT α → Nat → Option α
 | .nil, _ => none
 | .node l n v r, k => if Nat.beq n k then some v else if Nat.ble k n then l.get k else r.get k
structure Orac where
 f : FuncId
 args : List SV
 c : BE
 yes : SV
 no : SV
structure Ctr where
 f : FuncId
 pat : List SV
 roms : List (Nat × (Nat × List CK))
 pre : List BE
 res : SV
 heap : List (Nat × SObj)
 cnt : Nat
 post : List BE
structure Mtr where
 f : FuncId
 pat : List SV
 hp : SHeap
 cnt0 : Nat
 roms : List (Nat × (Nat × List CK))
 pre : List BE
 res : SV
 hq : SHeap
 cnt : Nat
 post : List BE
structure Orc where
 F : Fns
 l : List Orac
 rom : List (Nat × (Nat × List CK))
 ctr : List Ctr
 mem : List Mtr
structure Tab where
 ty : BT TI
 fn : BT Func
 eqs : List (Nat × List CK)
 orac : Orc

def IE.beqL : List IE → List IE → Bool
 | [], [] => true
 | a :: l, b :: m => if a.beq b then IE.beqL l m else false
 | _, _ => false
def capBeq : Option IE → Option IE → Bool
 | none, none => true
 | some a, some b => a.beq b
 | _, _ => false
mutual
def SV.beq : SV → SV → Bool
 | .bool a, .bool b => a.beq b
 | .int k a, .int j b => if keq k j then a.beq b else false
 | .ptr n o, .ptr m p => if Nat.beq n m then Nat.beq o p else false
 | .slice n o l c, .slice m p k d => if Nat.beq n m then (if Nat.beq o p then (if Nat.beq l k then Nat.beq c d else false) else false) else false
 | .agg a, .agg b => SV.beqL a b
 | .tup a, .tup b => SV.beqL a b
 | .opq n, .opq m => Nat.beq n m
 | .iface t a, .iface u b => if Nat.beq t u then SV.beq a b else false
 | .const .nilFunc, .const .nilFunc => true
 | .const .nilIface, .const .nilIface => true
 | .const (.pointer none), .const (.pointer none) => true
 | .const (.map none), .const (.map none) => true
 | .const (.slice none 0 0), .const (.slice none 0 0) => true
 | .const (.pointer (some ⟨g, o, none⟩)), .const (.pointer (some ⟨h, p, none⟩)) => if Nat.beq g h then Nat.beq o p else false
 | .func (.func f) a b, .func (.func g) c d => if Nat.beq f g then (if SV.beqL a c then SV.beqL b d else false) else false
 | .func (.yield f) a b, .func (.yield g) c d => if Nat.beq f g then (if SV.beqL a c then SV.beqL b d else false) else false
 | .str a, .str b => IE.beqL a b
 | .sl n c z o l, .sl m d y p k => if Nat.beq n m then (if Nat.beq c d then (if Nat.beq z y then (if Nat.beq o p then Nat.beq l k else false) else false) else false) else false
 | .rom r a b x, .rom q c d y => if Nat.beq r q then (if a.beq c then (if b.beq d then capBeq x y else false) else false) else false
 | .rptr r a i, .rptr q b j => if Nat.beq r q then (if Nat.beq i j then a.beq b else false) else false
 | .sll n c z a b x, .sll m d w e f y => if Nat.beq n m then (if Nat.beq c d then (if Nat.beq z w then (if a.beq e then (if b.beq f then capBeq x y else false) else false) else false) else false) else false
 | .sle n c z a b, .sle m d w e f => if Nat.beq n m then (if Nat.beq c d then (if Nat.beq z w then (if a.beq e then b.beq f else false) else false) else false) else false
 | .lptr n z a i, .lptr m w b j => if Nat.beq n m then (if Nat.beq z w then (if Nat.beq i j then a.beq b else false) else false) else false
 | .lstr a, .lstr b => a.beq b
 | .cel l i n, .cel m p q => if Nat.beq n q then (if i.beq p then l.beq m else false) else false
 | .map n, .map m => Nat.beq n m
 | _, _ => false
def SV.beqL : List SV → List SV → Bool
 | [], [] => true
 | a :: l, b :: m => if SV.beq a b then SV.beqL l m else false
 | _, _ => false
end
def ofBytes : List UInt8 → List IE
 | [] => []
 | b :: l => fnat b.toNat fun n => .lit (.ofNat n) :: ofBytes l
def ofScalar : Value → SV
 | .int k n => .int k (.lit n)
 | .bool b => .bool (.lit b)
 | .string s => .str (ofBytes s.data.toList)
 | v => .const v
def ofConst : Value → SV
 | .int k n => .int k (.lit n)
 | .bool b => .bool (.lit b)
 | .string s => .str (ofBytes s.data.toList)
 | .agg cs => .agg (cs.toList.map ofScalar)
 | .tuple vs => if vs.size = 0 then .tup [] else .const (.tuple vs)
 | v => .const v
def SV.cells : SV → Option (List SV)
 | .agg cs => some cs
 | .opq _ => none
 | .const (.agg _) => none
 | .cel _ _ _ => none
 | v => some [v]
def SV.one : SV → Bool
 | .agg _ => false
 | .tup _ => false
 | .opq _ => false
 | .const (.agg _) => false
 | .const (.tuple _) => false
 | .cel _ _ _ => false
 | _ => true
def findO (f : FuncId) (args : List SV) : List Orac → Option Orac
 | [] => none
 | o :: l => if Nat.beq o.f f then (if SV.beqL o.args args then some o else findO f args l) else findO f args l
end Go.Proofs.Ythenenacmiiphaa.Sx
namespace Go.Proofs.Ythenenacmiiphaa.Sx
open Go
noncomputable section

def oddN (n : Nat) : Bool := Nat.beq (Nat.mod n 2) 1
def ckeq : CK → CK → Bool
 | .int k, .int j => keq k j
 | .bool, .bool => true
 | .str, .str => true
 | .any, .any => true
 | _, _ => false
def ksEq : List CK → List CK → Bool
 | [], [] => true
 | a :: l, b :: m => if ckeq a b then ksEq l m else false
 | _, _ => false
def byteK : List CK := [.int .u8]
def isByteK : List CK → Bool
 | [.int .u8] => true
 | _ => false
def addE : IE → IE → IE
 | .lit a, .lit b => fint (a + b) .lit
 | .lit (.ofNat 0), y => y
 | x, .lit (.ofNat 0) => x
 | .add x (.lit a), .lit b => fint (a + b) fun c => if ieqb c 0 then x else .add x (.lit c)
 | x, y => .add x y
def subE : IE → IE → IE
 | .lit a, .lit b => fint (a - b) .lit
 | x, .lit (.ofNat 0) => x
 | .add x (.lit a), .lit b => fint (a - b) fun c => if ieqb c 0 then x else .add x (.lit c)
 | .add x y, z => if y.beq z then x else (if x.beq z then y else (if (IE.add x y).beq z then .lit 0 else .sub (.add x y) z))
 | x, y => if x.beq y then .lit 0 else .sub x y
def resI (pc : List BE) : IE → IE
 | .ite c x y => (match dec pc c with
  | some true => resI pc x
  | some false => resI pc y
  | none => .ite c x y)
 | .add x y => addE (resI pc x) (resI pc y)
 | e => e
def lenE (pc : List BE) : LE → IE
 | .nil => .lit 0
 | .one _ => .lit 1
 | .cat a b => addE (lenE pc a) (lenE pc b)
 | .set a _ _ => lenE pc a
 | .rep c n => (match dec pc (mkLe (.lit 0) n) with
  | some true => n
  | _ => .len (.rep c n))
 | .take a k => (match dec pc (mkLe (.lit 0) k) with
  | some true => (match dec pc (mkLe k (lenE pc a)) with
   | some true => k
   | _ => .len (.take a k))
  | _ => .len (.take a k))
 | .drop a k => (match dec pc (mkLe (.lit 0) k) with
  | some true => (match dec pc (mkLe k (lenE pc a)) with
   | some true => subE (lenE pc a) k
   | _ => .len (.drop a k))
  | _ => .len (.drop a k))
 | l => .len l
inductive ER where
 | el (cs : List SV)
 | split (c : BE)
 | fail (n : Nat)
def alCells : AL → List SV
 | .nil => []
 | .int k e r => .int k e :: alCells r
 | .bool b r => .bool b :: alCells r
 | .lst l r => .lstr l :: alCells r
 | .cel l i j r => .cel l i j :: alCells r
def atomsAt (l : LE) (i : IE) : List CK → Nat → List SV
 | [], _ => []
 | .int k :: ks, j => .int k (.cel k l i j) :: atomsAt l i ks (j + 1)
 | .bool :: ks, j => .bool (.cel l i j) :: atomsAt l i ks (j + 1)
 | .str :: ks, j => .lstr (.str l i j) :: atomsAt l i ks (j + 1)
 | .any :: ks, j => .cel l i j :: atomsAt l i ks (j + 1)
def orB (a b : Option Bool) : Option Bool := match a with
 | some x => some x
 | none => b
def elemAt (pc : List BE) (ks : List CK) : LE → IE → ER
 | .cat a b, i => (match dec pc (mkLe (lenE pc a) i) with
  | some true => elemAt pc ks b (subE i (lenE pc a))
  | some false => elemAt pc ks a i
  | none => .split (atom pc (mkLe (lenE pc a) i)))
 | .one c, _ => .el (alCells c)
 | .set a j c, i => if i.beq j then (match dec pc (mkLe (lenE pc a) i) with
   | some false => .el (alCells c)
   | _ => .fail 501) else (match dec pc (mkLe (.lit 0) j) with
  | some true => (match dec pc (mkEq i j) with
   | some true => (match dec pc (mkLe (lenE pc a) i) with
    | some false => .el (alCells c)
    | _ => .fail 501)
   | some false => elemAt pc ks a i
   | none => .split (atom pc (mkEq i j)))
  | _ => .fail 502)
 | .take a _, i => elemAt pc ks a i
 | .drop a k, i => (match dec pc (mkLe (.lit 0) k) with
  | some true => elemAt pc ks a (addE i k)
  | _ => .fail 503)
 | .rep c _, _ => .el (alCells c)
 | l, i => .el (atomsAt l i ks 0)
def inK (pc : List BE) (k : IntKind) (e : IE) : Bool :=
 if oin k (rng pc e) then true else (match dec pc (mkLe (.lit (kmin k)) e) with
  | some true => (match dec pc (mkLe e (.lit (kmax k))) with
   | some true => true
   | _ => false)
  | _ => false)
def typedB (roms : List (Nat × (Nat × List CK))) (pc : List BE) : LE → Bool
 | .nil => true
 | .var n => oddN n
 | .rom r => (match lk roms r with
  | some (_, ks) => isByteK ks
  | none => false)
 | .cat a b => if typedB roms pc a then typedB roms pc b else false
 | .one (.int .u8 e .nil) => inK pc .u8 e
 | .set a _ (.int .u8 e .nil) => if inK pc .u8 e then typedB roms pc a else false
 | .take a _ => typedB roms pc a
 | .drop a _ => typedB roms pc a
 | .rep (.int .u8 e .nil) _ => inK pc .u8 e
 | .str _ _ _ => true
 | .fn n _ => oddN n
 | _ => false
def strL : List IE → LE
 | [] => .nil
 | e :: l => (match l with
  | [] => .one (.int .u8 e .nil)
  | l => .cat (.one (.int .u8 e .nil)) (strL l))
def allK (pc : List BE) : List IE → Bool
 | [] => true
 | e :: l => if inK pc .u8 e then allK pc l else false
def toAL (roms : List (Nat × (Nat × List CK))) (pc : List BE) : List CK → List SV → Option AL
 | [], [] => some .nil
 | .int k :: ks, .int j e :: vs => if keq k j then (if inK pc k e then (match toAL roms pc ks vs with
  | some r => some (.int k e r)
  | none => none) else none) else none
 | .bool :: ks, .bool b :: vs => (match toAL roms pc ks vs with
  | some r => some (.bool b r)
  | none => none)
 | .str :: ks, .lstr l :: vs => if typedB roms pc l then (match toAL roms pc ks vs with
  | some r => some (.lst l r)
  | none => none) else none
 | .str :: ks, .str bs :: vs => if allK pc bs then (match toAL roms pc ks vs with
  | some r => some (.lst (strL bs) r)
  | none => none) else none
 | _, _ => none
def kindsOf : List SV → Option (List CK)
 | [] => some []
 | .int k _ :: vs => (match kindsOf vs with
  | some ks => some (.int k :: ks)
  | none => none)
 | .bool _ :: vs => (match kindsOf vs with
  | some ks => some (.bool :: ks)
  | none => none)
 | .str _ :: vs => (match kindsOf vs with
  | some ks => some (.str :: ks)
  | none => none)
 | .lstr _ :: vs => (match kindsOf vs with
  | some ks => some (.str :: ks)
  | none => none)
 | _ => none
def setE (l : LE) (i : IE) (c : AL) : LE :=
 match l with
 | .set a j d => if j.beq i then .set a i c else .set l i c
 | l => .set l i c
def lenS : LE → IE
 | .nil => .lit 0
 | .one _ => .lit 1
 | .cat a b => addE (lenS a) (lenS b)
 | .set a _ _ => lenS a
 | e => .len e
def dropE (c : LE) (e : IE) : LE := match e with
 | .lit (.ofNat 0) => c
 | e => (match c with
  | .cat a b => if (lenS a).beq e then b else (match b with
   | .cat b1 b2 => if (addE (lenS a) (lenS b1)).beq e then b2 else .drop (.cat a (.cat b1 b2)) e
   | b => .drop (.cat a b) e)
  | c => .drop c e)
def zeroE : IE → IE
 | .add x (.lit (.ofNat 0)) => x
 | e => e
def takeE (c : LE) (n : IE) : LE :=
 match c with
 | .cat a b => if (lenS a).beq (zeroE n) then a else .take (.cat a b) n
 | c => .take c n
def winL (c : LE) (tot off len : IE) : LE := if (subE tot off).beq len then dropE c off else takeE (dropE c off) len
def catE : LE → LE → LE
 | .nil, b => b
 | a, .nil => a
 | a, b => .cat a b
def mkLeq (a b : LE) : BE := if a.beq b then .lit true else .leq a b
def rowsL (roms : List (Nat × (Nat × List CK))) (pc : List BE) (ks : List CK) (sz : Nat) : Nat → List SV → Option LE
 | 0, _ => some .nil
 | n + 1, cs => (match toAL roms pc ks (cs.take sz) with
  | some a => (match rowsL roms pc ks sz n (cs.drop sz) with
   | some l => some (catE (.one a) l)
   | none => none)
  | none => none)
end
end Go.Proofs.Ythenenacmiiphaa.Sx
namespace Go.Proofs.Ythenenacmiiphaa.Sx
open Go
noncomputable section

inductive BR where
 | ok (v : SV)
 | split (c : BE)
 | fail (n : Nat)
inductive OR where
 | val (v : SV) (h : SHeap) (nx : Nat)
 | enter (f : FuncId) (args : List SV)
 | round (n : Nat) (args : List SV)
 | split (c : BE)
 | fail (n : Nat)

def ev (sl : Slots) : Operand → SV
 | .tmp t => (get2 sl t).getD (.tup [])
 | .const v => ofConst v
 | .global g => .const (.pointer (some ⟨g, 0, none⟩))
 | .func f => .func (.func f) [] []

def eqCells : List CK → List SV → List SV → Option BE
 | [], [], [] => some (.lit true)
 | .int k :: ks, .int j a :: l, .int i b :: m => if keq k j then (if keq k i then (match eqCells ks l m with
   | some r => some (mkAnd (if a.beq b then .lit true else mkEq a b) r)
   | none => none) else none) else none
 | .bool :: ks, .bool a :: l, .bool b :: m => (match eqCells ks l m with
   | some r => some (mkAnd (if a.beq b then .lit true else mkIff a b) r)
   | none => none)
 | _, _, _ => none
def intCmp (op : BinOp) (a b : IE) : Option BE :=
 match op with
 | .eql => some (mkEq a b)
 | .neq => some (mkNot (mkEq a b))
 | .lss => some (mkNot (mkLe b a))
 | .leq => some (mkLe a b)
 | .gtr => some (mkNot (mkLe a b))
 | .geq => some (mkLe b a)
 | _ => none
def isShift : BinOp → Bool
 | .shl => true
 | .shr => true
 | _ => false
def symInt (pc : List BE) (op : BinOp) (k : IntKind) (a b : IE) : BR :=
 match op with
 | .add => .ok (.int k (mkAdd k pc a b))
 | .sub => .ok (.int k (mkSub k pc a b))
 | .mul => .ok (.int k (mkMul k pc a b))
 | .and => .ok (.int k (mkBin .and k a b))
 | .or => .ok (.int k (mkBin .or k a b))
 | .xor => .ok (.int k (mkBin .xor k a b))
 | .andNot => .ok (.int k (mkBin .andNot k a b))
 | .quo => match dec pc (mkEq b (.lit 0)) with
  | some false => .ok (.int k (mkBin .quo k a b))
  | some true => .fail 11
  | none => .split (mkEq b (.lit 0))
 | .rem => match dec pc (mkEq b (.lit 0)) with
  | some false => .ok (.int k (mkBin .rem k a b))
  | some true => .fail 12
  | none => .split (mkEq b (.lit 0))
 | op => match intCmp op a b with
  | some c => .ok (.bool c)
  | none => .fail 13
def inByte (pc : List BE) (e : IE) : Bool :=
 match rng pc e with
 | (some a, some b) => if ileb 0 a then ileb b 255 else false
 | _ => false
def allByte (pc : List BE) : List IE → Bool
 | [] => true
 | e :: l => if inByte pc e then allByte pc l else false
def eqBytes : List IE → List IE → BE
 | [], [] => .lit true
 | a :: l, b :: m => mkAnd (if a.beq b then .lit true else mkEq a b) (eqBytes l m)
 | _, _ => .lit false
def lessBytes : List IE → List IE → Option Bool
 | _, [] => some false
 | [], _ :: _ => some true
 | .lit a :: l, .lit b :: m => if ileb b a then (if ileb a b then lessBytes l m else some false) else some true
 | _, _ => none
def litEq : List IE → List IE → Bool
 | [], [] => true
 | .lit a :: l, .lit b :: m => if ieqb a b then litEq l m else false
 | _, _ => false
def symStr (pc : List BE) (op : BinOp) (xs ys : List IE) : BR :=
 match op with
 | .add => if Nat.ble (xs.length + ys.length) 1000000 then .ok (.str (xs ++ ys)) else .fail 22
 | op => if allByte pc xs then (if allByte pc ys then (match op with
  | .eql => .ok (.bool (if Nat.beq xs.length ys.length then eqBytes xs ys else .lit false))
  | .neq => .ok (.bool (mkNot (if Nat.beq xs.length ys.length then eqBytes xs ys else .lit false)))
  | .lss => (match lessBytes xs ys with
   | some b => .ok (.bool (.lit b))
   | none => .fail 23)
  | .geq => (match lessBytes xs ys with
   | some b => .ok (.bool (.lit (!b)))
   | none => .fail 23)
  | _ => .fail 24) else .fail 25) else .fail 25
def asL (roms : List (Nat × (Nat × List CK))) (pc : List BE) : SV → Option LE
 | .lstr l => if typedB roms pc l then some l else none
 | .str bs => if allK pc bs then some (strL bs) else none
 | _ => none
def eqLs (pc : List BE) (l m : LE) : BE :=
 match l, m with
 | .nil, m => mkEq (lenE pc m) (.lit 0)
 | l, .nil => mkEq (lenE pc l) (.lit 0)
 | l, m => mkLeq l m
def symLstr (T : Tab) (pc : List BE) (op : BinOp) (x y : SV) : BR :=
 match asL T.orac.rom pc x, asL T.orac.rom pc y with
 | some l, some m => (match op with
  | .eql => .ok (.bool (eqLs pc l m))
  | .neq => .ok (.bool (mkNot (eqLs pc l m)))
  | .add => (match dec pc (mkLe (addE (lenE pc l) (lenE pc m)) (.lit 1000000)) with
   | some true => .ok (.lstr (catE l m))
   | _ => .fail 530)
  | _ => .fail 531)
 | _, _ => .fail 532
def eqNil : ST → SV → SV → Option Bool
 | .ptr, .const (.pointer none), .const (.pointer none) => some true
 | .ptr, .ptr _ _, .const (.pointer none) => some false
 | .ptr, .const (.pointer none), .ptr _ _ => some false
 | .slice _, .const (.slice none 0 0), .const (.slice none 0 0) => some true
 | .slice _, .slice _ _ _ _, .const (.slice none 0 0) => some false
 | .slice _, .sl _ _ _ _ _, .const (.slice none 0 0) => some false
 | .slice _, .sll _ _ _ _ _ _, .const (.slice none 0 0) => some false
 | .func, .const .nilFunc, .const .nilFunc => some true
 | .func, .func _ _ _, .const .nilFunc => some false
 | .func, .const .nilFunc, .func _ _ _ => some false
 | .iface, .iface _ _, .const .nilIface => some false
 | .map _ _, .const (.map none), .const (.map none) => some true
 | _, _, _ => none
def symNil (T : Tab) (op : BinOp) (xt : TypeId) (x y : SV) : BR :=
 match T.ty.get xt with
 | some ti => (match eqNil ti.und x y with
  | some b => (match op with
   | .eql => .ok (.bool (.lit b))
   | .neq => .ok (.bool (.lit (!b)))
   | _ => .fail 26)
  | none => .fail 27)
 | none => .fail 28
def rnilE (T : Tab) (pc : List BE) (r : Nat) : BE :=
 match lk T.orac.rom r with
 | some _ => (match dec pc (.le (.lit 1) (.len (.rom r))) with
  | some true => .lit false
  | _ => .rnil r)
 | none => .rnil r
def symRnil (T : Tab) (pc : List BE) (op : BinOp) (xt : TypeId) (r : Nat) : BR :=
 match T.ty.get xt with
 | some ti => (match ti.und, op with
  | .slice _, .eql => .ok (.bool (rnilE T pc r))
  | .slice _, .neq => .ok (.bool (mkNot (rnilE T pc r)))
  | _, _ => .fail 29)
 | none => .fail 28
def symBin (T : Tab) (pc : List BE) (op : BinOp) (xt : TypeId) (x y : SV) : BR :=
 match x, y with
 | .int k a, .int j b =>
  if isShift op then (match dec pc (mkLe (.lit 0) b) with
   | some true => .ok (.int k (mkBin op k a b))
   | some false => .fail 14
   | none => .split (mkLe (.lit 0) b))
  else if keq k j then symInt pc op k a b else .fail 15
 | .bool a, .bool b => (match T.ty.get xt with
  | some ti => (match ti.und, op with
   | .bool, .eql => .ok (.bool (mkIff a b))
   | .bool, .neq => .ok (.bool (mkNot (mkIff a b)))
   | _, _ => .fail 16)
  | none => .fail 16)
 | .agg xs, .agg ys => (match lk T.eqs xt with
   | some ks => (match eqCells ks xs ys with
     | some c => (match op with
      | .eql => .ok (.bool c)
      | .neq => .ok (.bool (mkNot c))
      | _ => .fail 17)
     | none => .fail 18)
   | none => .fail 19)
 | .str xs, .str ys => symStr pc op xs ys
 | .lstr l, y => symLstr T pc op (.lstr l) y
 | .str xs, .lstr m => symLstr T pc op (.str xs) (.lstr m)
 | .rom r off len cap, .const (.slice none 0 0) => symRnil T pc op xt r
 | x, y => symNil T op xt x y
def place (pc : List BE) (e : IE) : Nat → Nat → OR
 | 0, _ => .fail 30
 | n + 1, j => match dec pc (mkLe e (.lit (j : Nat))) with
  | some true => (match dec pc (mkLe (.lit (j : Nat)) e) with
   | some true => .val (.int .i64 (.lit (j : Nat))) [] j
   | none => .split (mkLe (.lit (j : Nat)) e)
   | some false => .fail 34)
  | none => .split (mkLe e (.lit (j : Nat)))
  | some false => place pc e n (j + 1)
def idx (pc : List BE) (e : IE) (len : Nat) : OR :=
 match e with
 | .lit (.ofNat j) => if Nat.blt j len then .val (.tup []) [] j else .fail 31
 | .lit _ => .fail 32
 | e => if Nat.ble len 24 then place pc e len 0 else .fail 33

def allOne : List SV → Bool
 | [] => true
 | v :: l => if v.one then allOne l else false
def newCells (h : SHeap) (nx : Nat) (cs : List SV) (t : TypeId) : OR := .val (.ptr nx 0) ((nx, .cells cs t) :: h) (nx + 1)
def midL (c : LE) (k : IntKind) : Nat → Nat → List SV
 | 0, _ => []
 | n + 1, i => .int k (.cel k c (.lit (i : Nat)) 0) :: midL c k n (i + 1)
def SObj.cs : SObj → Option (List SV)
 | .cells cs _ => some cs
 | .row cs _ _ _ => some cs
 | .mix pre c len k post _ => some (pre ++ (midL c k len 0 ++ post))
 | _ => none
def SObj.put : SObj → List SV → SObj
 | .cells _ t, cs => .cells cs t
 | .row _ t cn sz, cs => .row cs t cn sz
 | .mix pre c len k _ t, cs => if SV.beqL ((cs.drop pre.length).take len) (midL c k len 0) then .mix (cs.take pre.length) c len k (cs.drop (pre.length + len)) t else .cells cs t
 | o, _ => o
def ocs (h : SHeap) (n : Nat) : Option (List SV) :=
 match lk h n with
 | some o => o.cs
 | none => none
def loadAt (T : Tab) (h : SHeap) (nx : Nat) (t : TypeId) (n off : Nat) : OR :=
 match T.ty.get t, ocs h n with
 | some ti, some cs =>
  if ti.agg then (if Nat.ble (off + ti.size) cs.length then .val (.agg ((cs.drop off).take ti.size)) h nx else .fail 40)
  else (match nth cs off with
   | some v => .val v h nx
   | none => .fail 41)
 | _, _ => .fail 42
def puts (cs : List SV) (off : Nat) : List SV → List SV
 | [] => cs
 | v :: l => puts (put cs off v) (off + 1) l
def storeAt (T : Tab) (h : SHeap) (nx : Nat) (t : TypeId) (n off : Nat) (x : SV) : OR :=
 match T.ty.get t, lk h n, x.cells with
 | some ti, some o, some vs => (match o.cs with
  | some cs => if Nat.beq vs.length ti.size then (if Nat.ble (off + vs.length) cs.length then (if allOne vs then .val (.tup []) (up h n (o.put (puts cs off vs))) nx else .fail 45) else .fail 46) else .fail 47
  | none => .fail 44)
 | _, _, _ => .fail 48
def pickCs (ti : TI) (c : Nat) (h : SHeap) (nx : Nat) (cs : List SV) : OR :=
 if ti.agg then (if Nat.ble (c + ti.size) cs.length then .val (.agg ((cs.drop c).take ti.size)) h nx else .fail 36)
 else (match nth cs c with
  | some v => .val v h nx
  | none => .fail 37)
def needO (pc : List BE) (c : BE) (k : OR) (n : Nat) : OR :=
 match dec pc c with
 | some true => k
 | some false => .fail n
 | none => .split (atom pc c)
def loadRom (T : Tab) (pc : List BE) (h : SHeap) (nx : Nat) (t : TypeId) (r : Nat) (i : IE) (c : Nat) : OR :=
 match T.ty.get t, lk T.orac.rom r with
 | some ti, some (esz, ks) =>
  needO pc (mkLe (.lit 0) i) (needO pc (mkNot (mkLe (.len (.rom r)) i)) (pickCs ti c h nx (atomsAt (.rom r) i ks 0)) 35) 38
 | _, _ => .fail 39
def loadL (T : Tab) (pc : List BE) (h : SHeap) (nx : Nat) (t : TypeId) (n sz : Nat) (i : IE) (c : Nat) : OR :=
 match T.ty.get t, lk h n with
 | some ti, some (.rowl l tot ks _ _ zs) => if Nat.beq zs sz then
  needO pc (mkLe (.lit 0) i) (needO pc (mkNot (mkLe tot i)) (match elemAt pc ks l i with
   | .el cs => pickCs ti c h nx cs
   | .split b => .split b
   | .fail n => .fail n) 35) 38 else .fail 39
 | _, _ => .fail 39
def storeEl (T : Tab) (pc : List BE) (h : SHeap) (nx n : Nat) (l : LE) (tot : IE) (ks : List CK) (u cn zs : Nat) (i : IE) (cs : List SV) : OR :=
 match toAL T.orac.rom pc ks cs with
 | some a => .val (.tup []) (up h n (.rowl (setE l i a) tot ks u cn zs)) nx
 | none => .fail 510
def storePart (T : Tab) (pc : List BE) (h : SHeap) (nx n : Nat) (l : LE) (tot : IE) (ks : List CK) (u cn zs : Nat) (i : IE) (c : Nat) (vs : List SV) : OR :=
 match elemAt pc ks l i with
 | .el cs => if Nat.ble (c + vs.length) cs.length then storeEl T pc h nx n l tot ks u cn zs i (puts cs c vs) else .fail 511
 | .split b => .split b
 | .fail n => .fail n
def storeL (T : Tab) (pc : List BE) (h : SHeap) (nx : Nat) (t : TypeId) (n sz : Nat) (i : IE) (c : Nat) (x : SV) : OR :=
 match T.ty.get t, lk h n, x.cells with
 | some ti, some (.rowl l tot ks u cn zs), some vs => if Nat.beq zs sz then (if Nat.beq vs.length ti.size then
  needO pc (mkLe (.lit 0) i) (needO pc (mkNot (mkLe tot i)) (if Nat.beq (vs.length + c) sz then (if Nat.beq c 0 then storeEl T pc h nx n l tot ks u cn zs i vs else storePart T pc h nx n l tot ks u cn zs i c vs) else storePart T pc h nx n l tot ks u cn zs i c vs) 35) 38 else .fail 512) else .fail 513
 | _, _, _ => .fail 514
def isMix (h : SHeap) (n : Nat) : Bool :=
 match lk h n with
 | some (.mix _ _ _ _ _ _) => true
 | _ => false
def isMixAt (h : SHeap) (n off : Nat) : Bool :=
 match lk h n with
 | some (.mix pre _ _ _ _ _) => Nat.beq off pre.length
 | _ => false
def loadM (T : Tab) (pc : List BE) (h : SHeap) (nx : Nat) (t : TypeId) (n sz : Nat) (i : IE) (c : Nat) : OR :=
 match T.ty.get t, lk h n with
 | some ti, some (.mix pre l len k _ _) => if Nat.beq sz 1 then (if Nat.beq c pre.length then
  needO pc (mkLe (.lit 0) i) (needO pc (mkNot (mkLe (.lit (len : Nat)) i)) (match elemAt pc [.int k] l i with
   | .el cs => pickCs ti 0 h nx cs
   | .split b => .split b
   | .fail n => .fail n) 35) 38 else .fail 39) else .fail 39
 | _, _ => .fail 39
def storeM (T : Tab) (pc : List BE) (h : SHeap) (nx : Nat) (t : TypeId) (n sz : Nat) (i : IE) (c : Nat) (x : SV) : OR :=
 match T.ty.get t, lk h n, x.cells with
 | some ti, some (.mix pre l len k post u), some vs => if Nat.beq sz 1 then (if Nat.beq c pre.length then (if Nat.beq vs.length ti.size then
  needO pc (mkLe (.lit 0) i) (needO pc (mkNot (mkLe (.lit (len : Nat)) i)) (match toAL T.orac.rom pc [.int k] vs with
   | some a => .val (.tup []) (up h n (.mix pre (setE l i a) len k post u)) nx
   | none => .fail 510) 35) 38 else .fail 512) else .fail 513) else .fail 513
 | _, _, _ => .fail 514
def fillS (places : Nat → Option (Nat × Nat)) (cells : List SV) : List (Nat × SV) → Option (List SV)
 | [] => some cells
 | (i, v) :: rest => match places i, v.cells with
  | some (off, size), some vs => if Nat.beq vs.length size then (if Nat.ble (off + vs.length) cells.length then fillS places (puts cells off vs) rest else none) else none
  | _, _ => none
def structPlaces (T : Tab) (fs : List (Nat × TypeId)) (i : Nat) : Option (Nat × Nat) :=
 match nth fs i with
 | some f => (match T.ty.get f.2 with
  | some ti => some (f.1, ti.size)
  | none => none)
 | none => none
def allTy (T : Tab) : List (Nat × TypeId) → Bool
 | [] => true
 | f :: fs => (match T.ty.get f.2 with
  | some _ => allTy T fs
  | none => false)
def reps (z : List SV) : Nat → List SV
 | 0 => []
 | n + 1 => z ++ reps z n
def symBuild (T : Tab) (h : SHeap) (nx : Nat) (t : TypeId) (parts : List (Nat × SV)) : OR :=
 match T.ty.get t with
 | some ti => (match ti.und with
  | .struct fs => if allTy T fs then (match fillS (structPlaces T fs) ti.zero parts with
   | some cs => .val (.agg cs) h nx
   | none => .fail 50) else .fail 49
  | .arr _ e => (match T.ty.get e with
   | some te => (match fillS (fun i => some (i * te.size, te.size)) ti.zero parts with
    | some cs => .val (.agg cs) h nx
    | none => .fail 51)
   | none => .fail 52)
  | _ => .fail 53)
 | none => .fail 54
def symBuildSlice (T : Tab) (h : SHeap) (nx : Nat) (t : TypeId) (len : Nat) (parts : List (Nat × SV)) : OR :=
 match T.ty.get t with
 | some ti => (match ti.und with
  | .slice e => (match T.ty.get e with
   | some te => if Nat.ble (len * te.size) 4096 then (match fillS (fun i => some (i * te.size, te.size)) (reps te.zero len) parts with
    | some cs => .val (.slice nx 0 len len) ((nx, .cells cs e) :: h) (nx + 1)
    | none => .fail 55) else .fail 56
   | none => .fail 57)
  | _ => .fail 58)
 | none => .fail 59
def symPart (T : Tab) (h : SHeap) (nx : Nat) (t : TypeId) (cs : List SV) (off : Nat) : OR :=
 match T.ty.get t with
 | some ti => if ti.agg then .val (.agg ((cs.drop off).take ti.size)) h nx else (match nth cs off with
   | some v => .val v h nx
   | none => .fail 60)
 | none => .fail 61
def symField (T : Tab) (h : SHeap) (nx : Nat) (s : TypeId) (x : SV) (i : Nat) : OR :=
 match T.ty.get s, x with
 | some ti, .agg cs => (match ti.und with
  | .struct fs => (match nth fs i with
   | some f => symPart T h nx f.2 cs f.1
   | none => .fail 62)
  | _ => .fail 63)
 | _, _ => .fail 64
def symFieldAddr (T : Tab) (h : SHeap) (nx : Nat) (s : TypeId) (x : SV) (i : Nat) : OR :=
 match T.ty.get s, x with
 | some ti, .ptr n off => (match ti.und with
  | .struct fs => (match nth fs i with
   | some f => (match T.ty.get f.2 with
    | some tf => if Nat.beq tf.size 0 then .fail 65 else .val (.ptr n (off + f.1)) h nx
    | none => .fail 66)
   | none => .fail 67)
  | _ => .fail 68)
 | some ti, .rptr r e c => (match ti.und with
  | .struct fs => (match nth fs i with
   | some f => (match T.ty.get f.2 with
    | some tf => if Nat.beq tf.size 0 then .fail 65 else .val (.rptr r e (c + f.1)) h nx
    | none => .fail 66)
   | none => .fail 67)
  | _ => .fail 68)
 | some ti, .lptr n z e c => (match ti.und with
  | .struct fs => (match nth fs i with
   | some f => (match T.ty.get f.2 with
    | some tf => if Nat.beq tf.size 0 then .fail 65 else .val (.lptr n z e (c + f.1)) h nx
    | none => .fail 66)
   | none => .fail 67)
  | _ => .fail 68)
 | _, _ => .fail 69
def symIndexAddr (T : Tab) (pc : List BE) (h : SHeap) (nx : Nat) (t : TypeId) (x i : SV) : OR :=
 match T.ty.get t, x, i with
 | some ti, .ptr n off, .int _ e => (match ti.und with
  | .arr len el => (match T.ty.get el with
   | some te => (match idx pc e len with
    | .val _ _ j => .val (.ptr n (off + j * te.size)) h nx
    | .split c => .split c
    | _ => .fail 70)
   | none => .fail 71)
  | _ => .fail 72)
 | some ti, .slice n off len _, .int _ e => (match ti.und with
  | .slice el => (match T.ty.get el with
   | some te => (match idx pc e len with
    | .val _ _ j => .val (.ptr n (off + j * te.size)) h nx
    | .split c => .split c
    | _ => .fail 73)
   | none => .fail 74)
  | _ => .fail 75)
 | some ti, .sl n _ sz off len, .int _ e => (match ti.und with
  | .slice el => (match T.ty.get el with
   | some te => (match idx pc e len with
    | .val _ _ j => if Nat.beq te.size sz then .val (.ptr n (off * sz + j * sz)) h nx else .fail 81
    | .split c => .split c
    | _ => .fail 73)
   | none => .fail 74)
  | _ => .fail 75)
 | some ti, .rom r off len _, .int _ e => (match ti.und with
  | .slice el => (match T.ty.get el, lk T.orac.rom r with
   | some te, some (esz, _) => if Nat.beq te.size esz then
    needO pc (mkLe (.lit 0) e) (needO pc (mkNot (mkLe len e)) (needO pc (mkLe (.lit 0) (resI pc off)) (needO pc (mkNot (mkLe (.len (.rom r)) (addE (resI pc off) e))) (.val (.rptr r (addE (resI pc off) e) 0) h nx) 81) 85) 82) 83 else .fail 84
   | _, _ => .fail 74)
  | _ => .fail 75)
 | some ti, .sll n _ sz off len _, .int _ e => (match ti.und with
  | .slice el => (match T.ty.get el with
   | some te => if Nat.beq te.size sz then
    needO pc (mkLe (.lit 0) e) (needO pc (mkNot (mkLe len e)) (needO pc (mkLe (.lit 0) (resI pc off)) (.val (.lptr n sz (addE (resI pc off) e) 0) h nx) 85) 82) 83 else .fail 84
   | _ => .fail 74)
  | _ => .fail 75)
 | some ti, .const (.pointer (some ⟨g, off, none⟩)), .int _ e => (match ti.und with
  | .arr len el => (match T.ty.get el with
   | some te => (match idx pc e len with
    | .val _ _ j => .val (.const (.pointer (some ⟨g, off + j * te.size, none⟩))) h nx
    | .split c => .split c
    | _ => .fail 70)
   | none => .fail 71)
  | _ => .fail 72)
 | _, _, _ => .fail 76
def symIndex (T : Tab) (pc : List BE) (h : SHeap) (nx : Nat) (t : TypeId) (x i : SV) : OR :=
 match T.ty.get t, x, i with
 | some ti, .str bs, .int _ e => (match ti.und with
  | .str => (match idx pc e bs.length with
   | .val _ _ j => (match nth bs j with
    | some b => if inByte pc b then .val (.int .u8 b) h nx else .fail 85
    | none => .fail 86)
   | .split c => .split c
   | _ => .fail 87)
  | _ => .fail 88)
 | some ti, .lstr l, .int _ e => (match ti.und with
  | .str => if typedB T.orac.rom pc l then needO pc (mkLe (.lit 0) e) (needO pc (mkNot (mkLe (lenE pc l) e)) (match elemAt pc byteK l e with
   | .el [v] => .val v h nx
   | .el _ => .fail 520
   | .split b => .split b
   | .fail n => .fail n) 521) 522 else .fail 523
  | _ => .fail 88)
 | some ti, .agg cs, .int _ e => (match ti.und with
  | .arr len el => (match T.ty.get el with
   | some te => (match idx pc e len with
    | .val _ _ j => symPart T h nx el cs (j * te.size)
    | .split c => .split c
    | _ => .fail 77)
   | none => .fail 78)
  | _ => .fail 79)
 | _, _, _ => .fail 80
def symUn (op : UnOp) (pc : List BE) (x : SV) : Option SV :=
 match op, x with
 | .not, .bool b => some (.bool (mkNot b))
 | .neg, .int k e => some (.int k (mkSub k pc (.lit 0) e))
 | .xor, .int k e => some (.int k (mkBin .xor k (.lit (if k.signed then -1 else k.max)) e))
 | _, _ => none
def symConv (T : Tab) (pc : List BE) (src dst : TypeId) (x : SV) : Option SV :=
 match T.ty.get src, T.ty.get dst, x with
 | some _, some ti, .int _ e => (match ti.und with
  | .int k => some (.int k (mkConv k pc e))
  | _ => none)
 | _, _, _ => none
def symLen (T : Tab) (t : TypeId) (x : SV) : Option SV :=
 match T.ty.get t with
 | some ti => (match ti.und, x with
  | .arr n _, _ => some (.int .i64 (.lit (n : Nat)))
  | .slice _, .slice _ _ len _ => some (.int .i64 (.lit (len : Nat)))
  | .slice _, .sl _ _ _ _ len => some (.int .i64 (.lit (len : Nat)))
  | .str, .str bs => some (.int .i64 (.lit (bs.length : Nat)))
  | .slice _, .const (.slice none 0 0) => some (.int .i64 (.lit 0))
  | _, _ => none)
 | none => none
def symCap (T : Tab) (t : TypeId) (x : SV) : Option SV :=
 match T.ty.get t with
 | some ti => (match ti.und, x with
  | .arr n _, _ => some (.int .i64 (.lit (n : Nat)))
  | .slice _, .slice _ _ _ cap => some (.int .i64 (.lit (cap : Nat)))
  | .slice _, .const (.slice none 0 0) => some (.int .i64 (.lit 0))
  | _, _ => none)
 | none => none
def farB : IE → Bool
 | .lit (.ofNat n) => Nat.ble 1152921504606846976 n
 | _ => false
def min2S (pc : List BE) : SV → SV → BR
 | .int k a, .int j b => if keq k j then (match dec pc (mkLe a b) with
  | some true => .ok (.int k a)
  | some false => .ok (.int k b)
  | none => if farB b then .ok (.int k (.ite (.le a b) a b)) else .split (atom pc (mkLe a b))) else .fail 100
 | _, _ => .fail 101
def max2S (pc : List BE) : SV → SV → BR
 | .int k a, .int j b => if keq k j then (match dec pc (mkLe a b) with
  | some true => .ok (.int k b)
  | some false => .ok (.int k a)
  | none => .split (atom pc (mkLe a b))) else .fail 102
 | _, _ => .fail 103
def foldM2 (g : SV → SV → BR) (x : SV) : List SV → BR
 | [] => .ok x
 | y :: l => (match g x y with
  | .ok v => foldM2 g v l
  | r => r)
def litN : SV → Option Nat
 | .int _ (.lit (.ofNat n)) => some n
 | _ => none
def litOr (d : Nat) (sl : Slots) : Option Operand → Option Nat
 | none => some d
 | some x => litN (ev sl x)
def three (sl : Slots) (len cap : Nat) (lo hi mx : Option Operand) : Option (Nat × Nat × Nat) :=
 match litOr cap sl mx, litOr len sl hi, litOr 0 sl lo with
 | some m, some u, some l => if Nat.ble m cap then (if Nat.ble u m then (if Nat.ble l u then (match mx, hi with
  | some _, none => none
  | _, _ => some (l, u, m)) else none) else none) else none
 | _, _, _ => none
def sliceOf (h : SHeap) (nx n off size : Nat) : Option (Nat × Nat × Nat) → OR
 | some (l, u, m) => .val (.slice n (if Nat.beq m l then off else off + l * size) (u - l) (m - l)) h nx
 | none => .fail 110
inductive SR where
 | ok (off len : IE) (cap : Option IE)
 | emp (off l : IE)
 | split (c : BE)
 | fail (n : Nat)
def needS (pc : List BE) (c : BE) (k : SR) (n : Nat) : SR :=
 match dec pc c with
 | some true => k
 | some false => .fail n
 | none => .split (atom pc c)
def intE (sl : Slots) : Option Operand → Option (Option IE)
 | none => some none
 | some x => (match ev sl x with
  | .int _ e => some (some e)
  | _ => none)
def orE (d : IE) : Option IE → IE
 | none => d
 | some e => e
def offS (pc : List BE) (off len m l h : IE) : SR :=
 match l with
 | .lit (.ofNat 0) => .ok off h (some m)
 | l => (match dec pc (mkEq m l) with
  | some true => .ok off (subE h l) (some (.lit 0))
  | some false => .ok (addE off l) (subE h l) (some (subE m l))
  | none => .split (atom pc (mkEq m l)))
def sliceE (pc : List BE) (off len room : IE) (cap alt : Option IE) (lo hi mx : Option IE) : SR :=
 needS pc (mkLe (.lit 0) off) (match mx with
 | some m => needS pc (mkLe (.lit 0) m) (needS pc (mkLe m room) (needS pc (mkLe (.lit 0) (orE len hi)) (needS pc (mkLe (orE len hi) m) (needS pc (mkLe (.lit 0) (orE (.lit 0) lo)) (needS pc (mkLe (orE (.lit 0) lo) (orE len hi))
   (match hi with
   | none => .fail 600
   | some h => offS pc off len m (orE (.lit 0) lo) h) 601) 602) 603) 604) 605) 606
 | none => needS pc (mkLe (.lit 0) (orE len hi)) (needS pc (mkLe (orE len hi) room) (needS pc (mkLe (.lit 0) (orE (.lit 0) lo)) (needS pc (mkLe (orE (.lit 0) lo) (orE len hi))
   (match lo with
   | none => .ok off (orE len hi) cap
   | some l => (match cap with
    | some e => offS pc off len e l (orE len hi)
    | none => (match l with
     | .lit (.ofNat 0) => .ok off (orE len hi) none
     | l => (match dec pc (mkLe room l) with
      | some false => .ok (addE off l) (subE (orE len hi) l) none
      | some true => (match alt with
       | some c => .ok (.ite (.eq c l) off (addE off l)) (subE (orE len hi) l) (some (subE c l))
       | none => .emp off l)
      | none => (match alt with
       | some c => .ok (.ite (.eq c l) off (addE off l)) (subE (orE len hi) l) (some (subE c l))
       | none => .split (atom pc (mkLe room l))))))) 608) 609) 610) 611) 612
def roomOf (d : IE) : Option IE → IE
 | none => d
 | some e => e
def winStr (roms : List (Nat × (Nat × List CK))) (pc : List BE) (h : SHeap) (nx : Nat) (l : LE) (lo hi : Option IE) : OR :=
 if typedB roms pc l then needO pc (mkLe (.lit 0) (orE (lenE pc l) hi)) (needO pc (mkLe (orE (lenE pc l) hi) (lenE pc l)) (needO pc (mkLe (.lit 0) (orE (.lit 0) lo)) (needO pc (mkLe (orE (.lit 0) lo) (orE (lenE pc l) hi))
  (.val (.lstr (winL l (lenE pc l) (orE (.lit 0) lo) (subE (orE (lenE pc l) hi) (orE (.lit 0) lo)))) h nx) 620) 621) 622) 623 else .fail 624
def opSliceL (T : Tab) (pc : List BE) (h : SHeap) (nx : Nat) (ti : TI) (x : SV) (lo hi mx : Option IE) : OR :=
 match ti.und, x with
 | .slice e, .rom r off len cap => (match T.ty.get e, lk T.orac.rom r with
  | some te, some (esz, _) => if Nat.beq te.size esz then (match sliceE pc (resI pc off) len (roomOf (subE (.len (.rom r)) (resI pc off)) cap) cap (some (subE (.rcap r) (resI pc off))) lo hi mx with
   | .ok o n c => .val (.rom r o n c) h nx
   | .emp _ _ => .fail 607
   | .split c => .split c
   | .fail n => .fail n) else .fail 630
  | _, _ => .fail 631)
 | .slice e, .sll n cn z off len cap => (match T.ty.get e, lk h n with
  | some te, some (.rowl _ tot _ _ dn zs) => if Nat.beq te.size z then (if Nat.beq zs z then (if Nat.beq dn cn then (match sliceE pc (resI pc off) len (roomOf (subE tot (resI pc off)) cap) cap none lo hi mx with
   | .ok o m c => .val (.sll n cn z o m c) h nx
   | .emp o l => .val (.sle n cn z o l) h nx
   | .split c => .split c
   | .fail n => .fail n) else .fail 630) else .fail 630) else .fail 630
  | _, _ => .fail 631)
 | .str, .lstr l => (match mx with
  | none => winStr T.orac.rom pc h nx l lo hi
  | some _ => .fail 632)
 | .str, .str bs => (match mx with
  | none => if allK pc bs then winStr T.orac.rom pc h nx (strL bs) lo hi else .fail 633
  | some _ => .fail 632)
 | _, _ => .fail 634
def opSlice (T : Tab) (h : SHeap) (nx : Nat) (sl : Slots) (t : TypeId) (x : Operand) (lo hi mx : Option Operand) : OR :=
 match T.ty.get t with
 | some ti => (match ti.und, ev sl x with
  | .str, .str bs => (match mx with
   | none => (match three sl bs.length bs.length lo hi none with
    | some (l, u, _) => .val (.str ((bs.take u).drop l)) h nx
    | none => .fail 111)
   | some _ => .fail 112)
  | .slice e, .slice n off len cap => (match T.ty.get e with
   | some te => sliceOf h nx n off te.size (three sl len cap lo hi mx)
   | none => .fail 113)
  | .arr len e, .ptr n off => (match T.ty.get e with
   | some te => sliceOf h nx n off te.size (three sl len len lo hi mx)
   | none => .fail 113)
  | .slice e, .const (.slice none 0 0) => (match T.ty.get e, three sl 0 0 lo hi mx with
   | some _, some _ => .val (.const (.slice none 0 0)) h nx
   | _, _ => .fail 114)
  | .slice e, .sl n cn sz off len => (match T.ty.get e, lk h n with
   | some te, some (.row cs _ dn zs) => if Nat.beq te.size sz then (if Nat.beq zs sz then (if Nat.beq dn cn then (match mx with
    | none => (match litOr len sl hi, litOr 0 sl lo with
     | some u, some l => if Nat.ble l u then (if Nat.ble ((off + u) * sz) cs.length then (if Nat.beq l 0 then .val (.sl n cn sz (off + l) (u - l)) h nx else if Nat.beq u l then .fail 115 else .val (.sl n cn sz (off + l) (u - l)) h nx) else .fail 116) else .fail 117
     | _, _ => .fail 118)
    | some y => (match litN (ev sl y) with
     | some m => if Nat.ble ((off + m) * sz) cs.length then sliceOf h nx n (off * sz) sz (three sl len m lo hi (some y)) else .fail 119
     | none => .fail 120)) else .fail 121) else .fail 121) else .fail 121
   | _, _ => .fail 122)
  | _, _ => .fail 123)
 | none => .fail 124
def opSliceX (T : Tab) (pc : List BE) (h : SHeap) (nx : Nat) (sl : Slots) (t : TypeId) (x : Operand) (lo hi mx : Option Operand) : OR :=
 match opSlice T h nx sl t x lo hi mx with
 | .fail m => (match T.ty.get t, intE sl lo, intE sl hi, intE sl mx with
  | some ti, some l, some u, some m => opSliceL T pc h nx ti (ev sl x) l u m
  | _, _, _, _ => .fail m)
 | r => r
def makeL (T : Tab) (pc : List BE) (h : SHeap) (nx : Nat) (e : TypeId) (te : TI) (l c : IE) : OR :=
 if l.beq c then (if Nat.ble te.bytes 1000000 then needO pc (mkLe (.lit 0) l) (needO pc (mkLe l (.lit 1000000)) (match kindsOf te.zero with
  | some ks => (match toAL T.orac.rom pc ks te.zero with
   | some a => if Nat.beq te.size 0 then .fail 640 else .val (.sll nx (nx + 1) te.size (.lit 0) l none) ((nx, .rowl (.rep a l) l ks e (nx + 1) te.size) :: h) (nx + 2)
   | none => .fail 641)
  | none => .fail 642) 643) 644 else .fail 645) else .fail 646
def opMakeSlice (T : Tab) (h : SHeap) (nx : Nat) (sl : Slots) (t : TypeId) (len cap : Operand) : OR :=
 match T.ty.get t with
 | some ti => (match ti.und with
  | .slice e => (match T.ty.get e, litN (ev sl len), litN (ev sl cap) with
   | some te, some l, some c => if Nat.ble l c then (if Nat.ble c 1000000 then (if Nat.ble te.bytes 1000000 then .val (.slice nx 0 l c) ((nx, .cells (reps te.zero c) e) :: h) (nx + 1) else .fail 130) else .fail 131) else .fail 132
   | _, _, _ => .fail 133)
  | _ => .fail 134)
 | none => .fail 135
def opMakeSliceX (T : Tab) (pc : List BE) (h : SHeap) (nx : Nat) (sl : Slots) (t : TypeId) (len cap : Operand) : OR :=
 match opMakeSlice T h nx sl t len cap with
 | .fail m => (match T.ty.get t, ev sl len, ev sl cap with
  | some ti, .int .i64 l, .int .i64 c => (match ti.und with
   | .slice e => (match T.ty.get e with
    | some te => makeL T pc h nx e te l c
    | none => .fail m)
   | _ => .fail m)
  | _, _, _ => .fail m)
 | r => r
def byteVals : List IE → List SV
 | [] => []
 | e :: l => .int .u8 e :: byteVals l
def srcCells (pc : List BE) (h : SHeap) (size : Nat) : SV → Option (Nat × List SV)
 | .slice n off len _ => (match ocs h n with
  | some cs => if Nat.ble (off + len * size) cs.length then some (len, (cs.drop off).take (len * size)) else none
  | none => none)
 | .sl n _ sz off len => (match ocs h n with
  | some cs => if Nat.beq sz size then (if Nat.ble (off * sz + len * size) cs.length then some (len, (cs.drop (off * sz)).take (len * size)) else none) else none
  | none => none)
 | .const (.slice none 0 0) => some (0, [])
 | .str bs => if Nat.beq size 1 then (if allByte pc bs then some (bs.length, byteVals bs) else none) else none
 | _ => none
def rmH (n : Nat) : SHeap → SHeap
 | [] => []
 | (m, o) :: h => if Nat.beq m n then rmH n h else (m, o) :: rmH n h
def newRowS (h : SHeap) (nx : Nat) (cs : List SV) (e : TypeId) (sz len : Nat) : OR :=
 .val (.sl nx (nx + 1) sz 0 len) ((nx, .row cs e (nx + 1) sz) :: h) (nx + 2)
def appendTo (h : SHeap) (nx : Nat) (e : TypeId) (size k : Nat) (new : List SV) (s : SV) : OR :=
 match s with
 | .const (.slice none 0 0) => if Nat.beq k 0 then .val s h nx else newRowS h nx new e size k
 | .slice n off len cap => (match ocs h n, lk h n with
  | some cs, some o => if Nat.ble (len + k) cap then (if Nat.ble ((off + len * size) + new.length) cs.length then .val (.slice n off (len + k) cap) (up h n (o.put (puts cs (off + len * size) new))) nx else .fail 140)
   else (if Nat.ble (off + len * size) cs.length then (if Nat.ble len 1000000 then newRowS h nx ((cs.drop off).take (len * size) ++ new) e size (len + k) else .fail 141) else .fail 142)
  | _, _ => .fail 143)
 | .sl n cn sz off len => (match lk h n with
  | some (.row cs u dn zs) => if Nat.beq off 0 then (if Nat.beq zs sz then (if Nat.beq dn cn then (if Nat.beq sz size then (if Nat.ble (len * size) cs.length then (if Nat.ble len 1000000 then (if Nat.beq u e then
   (if Nat.beq k 0 then .val s h nx else if Nat.ble (len * size + new.length) cs.length then .val (.sl n cn sz 0 (len + k)) (up h n (.row (puts cs (len * size) new) u dn zs)) nx else newRowS (rmH n h) nx (cs.take (len * size) ++ new) e size (len + k)) else .fail 144) else .fail 144) else .fail 144) else .fail 145) else .fail 146) else .fail 146) else .fail 147
  | _ => .fail 148)
 | _ => .fail 149
def symAppend (T : Tab) (pc : List BE) (h : SHeap) (nx : Nat) (t u : TypeId) (s x : SV) : OR :=
 match T.ty.get t, T.ty.get u with
 | some ti, some tu => (match ti.und, tu.und with
  | .slice e, .slice _ => (match T.ty.get e with
   | some te => if Nat.ble te.bytes 1000000 then (match srcCells pc h te.size x with
    | some (k, new) => if Nat.ble k 1000000 then (if allOne new then (if Nat.beq te.size 0 then .fail 150 else if Nat.beq te.bytes 0 then .fail 150 else appendTo h nx e te.size k new s) else .fail 151) else .fail 152
    | none => .fail 153) else .fail 154
   | none => .fail 155)
  | .slice e, .str => (match T.ty.get e with
   | some te => if Nat.ble te.bytes 1000000 then (match srcCells pc h te.size x with
    | some (k, new) => if Nat.ble k 1000000 then (if allOne new then (if Nat.beq te.size 0 then .fail 150 else if Nat.beq te.bytes 0 then .fail 150 else appendTo h nx e te.size k new s) else .fail 151) else .fail 152
    | none => .fail 153) else .fail 154
   | none => .fail 155)
  | _, _ => .fail 156)
 | _, _ => .fail 157
def copyTo (h : SHeap) (nx n off k : Nat) (new : List SV) : OR :=
 match lk h n with
 | some o => (match o.cs with
  | some cs => if Nat.ble (off + new.length) cs.length then .val (.int .i64 (.lit (k : Nat))) (up h n (o.put (puts cs off new))) nx else .fail 160
  | none => .fail 161)
 | none => .fail 161
def symCopy (T : Tab) (pc : List BE) (h : SHeap) (nx : Nat) (t : TypeId) (s x : SV) : OR :=
 match T.ty.get t with
 | some ti => (match ti.und with
  | .slice e => (match T.ty.get e with
   | some te => (match srcCells pc h te.size x with
    | some (k, new) => if allOne new then (match s with
     | .slice n off len _ => copyTo h nx n off (Nat.min k len) (new.take (Nat.min k len * te.size))
     | .sl n _ sz off len => if Nat.beq sz te.size then copyTo h nx n (off * sz) (Nat.min k len) (new.take (Nat.min k len * te.size)) else .fail 162
     | .const (.slice none 0 0) => .val (.int .i64 (.lit 0)) h nx
     | _ => .fail 163) else .fail 164
    | none => .fail 165)
   | none => .fail 166)
  | _ => .fail 167)
 | none => .fail 168
def clearAt (h : SHeap) (nx n off : Nat) (vs : List SV) : OR :=
 match lk h n with
 | some o => (match o.cs with
  | some cs => if Nat.ble (off + vs.length) cs.length then (if allOne vs then .val (.tup []) (up h n (o.put (puts cs off vs))) nx else .fail 170) else .fail 171
  | none => .fail 172)
 | none => .fail 173
def symClear (T : Tab) (h : SHeap) (nx : Nat) (t : TypeId) (s : SV) : OR :=
 match T.ty.get t with
 | some ti => (match ti.und with
  | .slice e => (match T.ty.get e with
   | some te => (match s with
    | .slice n off len _ => if Nat.beq len 0 then .val (.tup []) h nx else clearAt h nx n off (reps te.zero len)
    | .sl n _ sz off len => if Nat.beq len 0 then .val (.tup []) h nx else clearAt h nx n (off * sz) (reps te.zero len)
    | .const (.slice none 0 0) => .val (.tup []) h nx
    | _ => .fail 174)
   | none => .fail 175)
  | _ => .fail 176)
 | none => .fail 177
def plainST : ST → Bool
 | .iface => false
 | .other => false
 | _ => true
def opMakeI (T : Tab) (h : SHeap) (nx : Nat) (sl : Slots) (t : TypeId) (x : Operand) : OR :=
 match T.ty.get t with
 | some ti => if plainST ti.und then .val (.iface t (ev sl x)) h nx else .fail 170
 | none => .fail 171
def zeroS (ti : TI) : Option SV :=
 if ti.agg then some (.agg ti.zero) else (match ti.zero with
  | [v] => some v
  | _ => none)
def opAssert (T : Tab) (h : SHeap) (nx : Nat) (sl : Slots) (x : Operand) (a : TypeId) (ok : Bool) : OR :=
 match T.ty.get a with
 | some ti => if plainST ti.und then (match ev sl x with
  | .iface t v => if Nat.beq t a then .val (if ok then .tup [v, .bool (.lit true)] else v) h nx else (if ok then (match zeroS ti with
   | some z => .val (.tup [z, .bool (.lit false)]) h nx
   | none => .fail 172) else .fail 173)
  | .const .nilIface => if ok then (match zeroS ti with
   | some z => .val (.tup [z, .bool (.lit false)]) h nx
   | none => .fail 172) else .fail 173
  | _ => .fail 174) else .fail 175
 | none => .fail 176
def lenLs (T : Tab) (pc : List BE) (h : SHeap) (nx : Nat) (t : TypeId) (len : IE) : OR :=
 match T.ty.get t with
 | some ti => (match ti.und with
  | .slice _ => needO pc (mkLe (.lit 0) len) (.val (.int .i64 len) h nx) 89
  | _ => .fail 90)
 | none => .fail 90
def lenStr (T : Tab) (pc : List BE) (h : SHeap) (nx : Nat) (t : TypeId) (l : LE) : OR :=
 match T.ty.get t with
 | some ti => (match ti.und with
  | .str => .val (.int .i64 (lenE pc l)) h nx
  | _ => .fail 90)
 | none => .fail 90
def isL : SV → Bool
 | .rom _ _ _ _ => true
 | .sll _ _ _ _ _ _ => true
 | .lstr _ => true
 | _ => false
structure LSrc where
 len : IE
 l : LE
 ks : Option (List CK)
def endW (r : Nat) (off len : IE) : Option IE := match off, len with
 | .ite (.eq (.rcap q) l) (.lit (.ofNat 0)) m, .sub (.len (.rom p)) n => if Nat.beq q r then (if Nat.beq p r then (if l.beq m then (if l.beq n then some l else none) else none) else none) else none
 | _, _ => none
def srcRom (roms : List (Nat × (Nat × List CK))) (pc : List BE) (sz r : Nat) (off len : IE) : Option LSrc :=
 match lk roms r with
 | some (esz, ks) => if Nat.beq esz sz then (match endW r off len with
  | some l => (match dec pc (mkLe (.lit 0) l), dec pc (mkLe l (.len (.rom r))) with
   | some true, some true => some ⟨len, dropE (.rom r) l, some ks⟩
   | _, _ => none)
  | none => (match dec pc (mkLe (.lit 0) off), dec pc (mkLe (.lit 0) len), dec pc (mkLe (addE off len) (.len (.rom r))) with
   | some true, some true, some true => some ⟨len, winL (.rom r) (.len (.rom r)) off len, some ks⟩
   | _, _, _ => none)) else none
 | none => none
def srcRow (pc : List BE) (h : SHeap) (sz n cn z : Nat) (off len : IE) : Option LSrc :=
 match lk h n with
 | some (.rowl c tot ks _ dn zs) => if Nat.beq dn cn then (if Nat.beq zs z then (if Nat.beq zs sz then (match dec pc (mkLe (.lit 0) off), dec pc (mkLe (.lit 0) len), dec pc (mkLe (addE off len) tot) with
  | some true, some true, some true => some ⟨len, winL c tot off len, some ks⟩
  | _, _, _ => none) else none) else none) else none
 | _ => none
def srcL (roms : List (Nat × (Nat × List CK))) (pc : List BE) (h : SHeap) (sz : Nat) (x : SV) : Option LSrc :=
 match x with
 | .rom r off len _ => srcRom roms pc sz r (resI pc off) len
 | .sll n cn z off len _ => srcRow pc h sz n cn z (resI pc off) len
 | .lstr l => if Nat.beq sz 1 then (if typedB roms pc l then some ⟨lenE pc l, l, some byteK⟩ else none) else none
 | .const (.slice none 0 0) => some ⟨.lit 0, .nil, none⟩
 | .sle _ _ _ _ _ => some ⟨.lit 0, .nil, none⟩
 | x => (match srcCells pc h sz x with
  | some (k, cs) => (match k with
   | 0 => some ⟨.lit 0, .nil, none⟩
   | k => (match kindsOf (cs.take sz) with
    | some ks => (match rowsL roms pc ks sz k cs with
     | some l => some ⟨.lit (k : Nat), l, some ks⟩
     | none => none)
    | none => none))
  | none => none)
def ksTwo : Option (List CK) → Option (List CK) → Option (List CK)
 | none, some b => some b
 | some a, none => some a
 | some a, some b => if ksEq a b then some a else none
 | none, none => none
def newRowL (h : SHeap) (nx : Nat) (c : LE) (tot : IE) (ks : List CK) (e : TypeId) (sz : Nat) (len : IE) : OR :=
 .val (.sll nx (nx + 1) sz (.lit 0) len none) ((nx, .rowl c tot ks e (nx + 1) sz) :: h) (nx + 2)
def splitO (pc : List BE) (c : BE) (t f : OR) : OR :=
 match dec pc c with
 | some true => t
 | some false => f
 | none => .split (atom pc c)
def growL (pc : List BE) (h : SHeap) (nx : Nat) (e : TypeId) (sz : Nat) (o s : LSrc) : OR :=
 match ksTwo o.ks s.ks with
 | some ks => if Nat.beq ks.length sz then (match dec pc (mkLe (addE o.len s.len) (.lit 1000000)) with
  | some true => newRowL h nx (catE o.l s.l) (addE o.len s.len) ks e sz (addE o.len s.len)
  | _ => .fail 540) else .fail 541
 | none => .fail 542
def growS (roms : List (Nat × (Nat × List CK))) (pc : List BE) (h : SHeap) (nx : Nat) (e : TypeId) (sz : Nat) (s : SV) (len cap : IE) (x : LSrc) : OR :=
 match dec pc (mkLe (.lit 0) len), dec pc (mkLe (.lit 0) cap), dec pc (mkLe len cap) with
 | some true, some true, some true => splitO pc (mkLe x.len (.lit 0)) (.val s h nx) (match dec pc (mkLe (addE len x.len) cap) with
  | some false => (match srcL roms pc h sz s with
   | some o => if o.len.beq len then growL pc h nx e sz o x else .fail 545
   | none => .fail 545)
  | _ => .fail 546)
 | _, _, _ => .fail 547
def inPlace (pc : List BE) (h : SHeap) (nx n cn z : Nat) (c : LE) (tot : IE) (ks : List CK) (u dn zs : Nat) (len : IE) (x : LSrc) : OR :=
 .val (.sll n cn z (.lit 0) (addE len x.len) none) (up h n (.rowl (catE (catE (winL c tot (.lit 0) len) x.l) (winL c tot (addE len x.len) (subE tot (addE len x.len)))) tot ks u dn zs)) nx
def ksFits (ks : List CK) : Option (List CK) → Bool
 | some k => ksEq ks k
 | none => true
def appendL (roms : List (Nat × (Nat × List CK))) (pc : List BE) (h : SHeap) (nx : Nat) (e : TypeId) (sz : Nat) (s : SV) (x : LSrc) : OR :=
 match s with
 | .const (.slice none 0 0) => splitO pc (mkLe x.len (.lit 0)) (.val s h nx) (growL pc h nx e sz ⟨.lit 0, .nil, none⟩ x)
 | .slice n off len cap => growS roms pc h nx e sz s (.lit (len : Nat)) (.lit (cap : Nat)) x
 | .rom r off len (some c) => growS roms pc h nx e sz s len c x
 | .sll n cn z off len (some c) => growS roms pc h nx e sz s len c x
 | .sll n cn z (.lit (.ofNat 0)) len none => (match lk h n with
  | some (.rowl c tot ks u dn zs) => if Nat.beq zs z then (if Nat.beq z sz then (if Nat.beq dn cn then (if Nat.beq u e then (if ksFits ks x.ks then
   needO pc (mkLe (.lit 0) len) (needO pc (mkLe len tot) (splitO pc (mkLe (addE len x.len) tot)
    (inPlace pc h nx n cn z c tot ks u dn zs len x)
    (growL pc (rmH n h) nx e sz ⟨len, winL c tot (.lit 0) len, some ks⟩ x)) 550) 551 else .fail 552) else .fail 553) else .fail 554) else .fail 555) else .fail 556
  | _ => .fail 557)
 | .sl n cn z 0 len => (match lk h n with
  | some (.row cs u dn zs) => if Nat.beq zs z then (if Nat.beq z sz then (if Nat.beq dn cn then (if Nat.beq u e then (if Nat.beq cs.length (len * sz) then (match srcL roms pc h sz s with
   | some o => if o.len.beq (.lit (len : Nat)) then growL pc (rmH n h) nx e sz o x else .fail 561
   | none => .fail 561) else .fail 562) else .fail 562) else .fail 562) else .fail 562) else .fail 562
  | _ => .fail 563)
 | _ => .fail 564
def rowTy : ST → Bool
 | .slice _ => true
 | .str => true
 | _ => false
def iteI (pc : List BE) : IE → Option BE
 | .ite c x y => (match dec pc c with
  | none => some (atom pc c)
  | some true => iteI pc x
  | some false => iteI pc y)
 | .add x y => (match iteI pc x with
  | some b => some b
  | none => iteI pc y)
 | _ => none
def iteS (pc : List BE) : SV → Option BE
 | .rom r off len _ => (match endW r off len with
  | some _ => none
  | none => iteI pc off)
 | .sll _ _ _ off _ _ => iteI pc off
 | _ => none
def iteL (pc : List BE) : List SV → Option BE
 | [] => none
 | v :: l => (match iteS pc v with
  | some b => some b
  | none => iteL pc l)
def splitX (pc : List BE) (x : SV) (n : Nat) : OR := match iteS pc x with
 | some b => .split b
 | none => .fail n
def symAppendL (T : Tab) (pc : List BE) (h : SHeap) (nx : Nat) (t u : TypeId) (s x : SV) : OR :=
 match T.ty.get t, T.ty.get u with
 | some ti, some tu => (match ti.und with
  | .slice e => (match T.ty.get e with
   | some te => if rowTy tu.und then (if Nat.ble te.bytes 1000000 then (if Nat.beq te.size 0 then .fail 150 else if Nat.beq te.bytes 0 then .fail 150 else (match srcL T.orac.rom pc h te.size x with
    | some src => appendL T.orac.rom pc h nx e te.size s src
    | none => splitX pc x 565)) else .fail 566) else .fail 567
   | none => .fail 568)
  | _ => .fail 569)
 | _, _ => .fail 570
def symCopyL (T : Tab) (pc : List BE) (h : SHeap) (nx : Nat) (t : TypeId) (s x : SV) : OR :=
 match T.ty.get t, s with
 | some ti, .sll n _ z off len _ => (match ti.und with
  | .slice e => (match T.ty.get e, lk h n with
   | some te, some (.rowl c tot ks u dn zs) => if Nat.beq zs z then (if Nat.beq z te.size then (match srcL T.orac.rom pc h te.size x with
    | some src => if ksFits ks src.ks then needO pc (mkLe (.lit 0) (resI pc off)) (needO pc (mkLe (addE (resI pc off) len) tot) (needO pc (mkLe (.lit 0) len) (splitO pc (mkLe src.len len)
      (.val (.int .i64 src.len) (up h n (.rowl (catE (catE (winL c tot (.lit 0) (resI pc off)) src.l) (winL c tot (addE (resI pc off) src.len) (subE tot (addE (resI pc off) src.len)))) tot ks u dn zs)) nx)
      (.val (.int .i64 len) (up h n (.rowl (catE (catE (winL c tot (.lit 0) (resI pc off)) (.take src.l len)) (winL c tot (addE (resI pc off) len) (subE tot (addE (resI pc off) len)))) tot ks u dn zs)) nx)) 580) 581) 582 else .fail 583
    | none => .fail 584) else .fail 585) else .fail 586
   | _, _ => .fail 587)
  | _ => .fail 588)
 | _, _ => .fail 589
def symClearL (T : Tab) (pc : List BE) (h : SHeap) (nx : Nat) (t : TypeId) (s : SV) : OR :=
 match T.ty.get t, s with
 | some ti, .sll n _ z off len _ => (match ti.und with
  | .slice e => (match T.ty.get e, lk h n with
   | some te, some (.rowl c tot ks u dn zs) => if Nat.beq zs z then (if Nat.beq z te.size then (match toAL T.orac.rom pc ks te.zero with
    | some a => needO pc (mkLe (.lit 0) (resI pc off)) (needO pc (mkLe (addE (resI pc off) len) tot) (needO pc (mkLe (.lit 0) len)
      (.val (.tup []) (up h n (.rowl (catE (catE (winL c tot (.lit 0) (resI pc off)) (.rep a len)) (winL c tot (addE (resI pc off) len) (subE tot (addE (resI pc off) len)))) tot ks u dn zs)) nx) 580) 581) 582
    | none => .fail 584) else .fail 585) else .fail 586
   | _, _ => .fail 587)
  | _ => .fail 588)
 | _, _ => .fail 589
def bytesIn (pc : List BE) : List SV → Option (List IE)
 | [] => some []
 | .int .u8 e :: l => if inByte pc e then (match bytesIn pc l with
  | some es => some (e :: es)
  | none => none) else none
 | _ => none
def isSl : SV → Bool
 | .rom _ _ _ _ => true
 | .sll _ _ _ _ _ _ => true
 | _ => false
def strL1 (roms : List (Nat × (Nat × List CK))) (pc : List BE) (h : SHeap) (nx : Nat) (x : SV) : OR :=
 if isSl x then (match srcL roms pc h 1 x with
 | some ⟨len, l, some ks⟩ => if isByteK ks then .val (.lstr l) h nx else .fail 650
 | _ => splitX pc x 651) else .fail 654
def bytesL1 (roms : List (Nat × (Nat × List CK))) (pc : List BE) (h : SHeap) (nx : Nat) (e : TypeId) (l : LE) : OR :=
 if typedB roms pc l then needO pc (mkLe (lenE pc l) (.lit 1000000)) (newRowL h nx l (lenE pc l) byteK e 1 (lenE pc l)) 652 else .fail 653
def strOf (pc : List BE) (h : SHeap) (nx : Nat) (x : SV) : OR :=
 match x with
 | .const (.slice none 0 0) => .val (.str []) h nx
 | .str _ => .fail 180
 | x => (match srcCells pc h 1 x with
  | some (_, cs) => (match bytesIn pc cs with
   | some es => .val (.str es) h nx
   | none => .fail 181)
  | none => .fail 182)
def bytesS (pc : List BE) (h : SHeap) (nx : Nat) (e : TypeId) (bs : List IE) : OR :=
 if Nat.ble bs.length 1000000 then (if allByte pc bs then newRowS h nx (byteVals bs) e 1 bs.length else .fail 183) else .fail 184
def growZ (T : Tab) (pc : List BE) (h : SHeap) (nx : Nat) (e : TypeId) (te : TI) (l : IE) : OR :=
 if Nat.ble te.bytes 1000000 then needO pc (mkLe (.lit 1) l) (needO pc (mkLe l (.lit 1000000)) (match kindsOf te.zero with
  | some ks => (match toAL T.orac.rom pc ks te.zero with
   | some a => if Nat.beq te.size 0 then .fail 640 else newRowL h nx (.rep a l) l ks e te.size l
   | none => .fail 641)
  | none => .fail 642) 643) 644 else .fail 645
def symAppendZ (T : Tab) (pc : List BE) (h : SHeap) (nx : Nat) (t u : TypeId) (s x : SV) : OR :=
 match T.ty.get t, T.ty.get u, s, x with
 | some ti, some tu, .const (.slice none 0 0), .int .i64 l => (match ti.und, tu.und with
  | .slice e, .int .i64 => (match T.ty.get e with
   | some te => splitO pc (mkLe l (.lit 0)) (needO pc (mkLe (.lit 0) l) (.fail 660) 661) (growZ T pc h nx e te l)
   | none => .fail 662)
  | _, _ => .fail 663)
 | _, _, _, _ => .fail 664
def intTy (T : Tab) (u : TypeId) : Bool := match T.ty.get u with
 | some tu => (match tu.und with
  | .int _ => true
  | _ => false)
 | none => false
def isNilS : SV → Bool
 | .const (.slice none 0 0) => true
 | _ => false
def plainCs : List SV → Bool
 | [] => true
 | .int _ _ :: l => plainCs l
 | .bool _ :: l => plainCs l
 | .lstr _ :: l => plainCs l
 | _ => false
def someLet : List SV → Bool
 | [] => false
 | .int _ (.lit _) :: l => someLet l
 | .bool (.lit _) :: l => someLet l
 | _ => true
def flatOn : List BE → Bool
 | [] => false
 | .not (.lit false) :: _ => true
 | _ :: pc => flatOn pc
def newL1 (pc : List BE) (h : SHeap) (y : SV) : Bool :=
 match y with
  | .slice n _ _ _ => (match ocs h n with
   | some cs => if plainCs cs then (if someLet cs then (if fmOn pc then (if flatOn pc then false else true) else false) else false) else false
   | none => false)
  | _ => false
def newL (pc : List BE) (h : SHeap) (x y : SV) : Bool :=
 if isNilS x then newL1 pc h y else (match x with
  | .slice _ _ len cap => if Nat.beq len cap then (if Nat.ble 1 len then newL1 pc h y else false) else false
  | _ => false)
def symCall (T : Tab) (pc : List BE) (h : SHeap) (nx : Nat) (sl : Slots) (c : Call) : OR :=
 match c.callee with
 | .builtin b => (match b, c.argTypes.toList, c.args.toList with
  | .len, t :: _, x :: _ => (match ev sl x with
   | .rom _ _ len _ => lenLs T pc h nx t len
   | .sll _ _ _ _ len _ => lenLs T pc h nx t len
   | .lstr l => lenStr T pc h nx t l
   | x => (match symLen T t x with
    | some v => .val v h nx
    | none => .fail 90))
  | .cap, t :: _, x :: _ => (match ev sl x with
   | .rom _ _ _ (some e) => lenLs T pc h nx t e
   | .sll _ _ _ _ _ (some e) => lenLs T pc h nx t e
   | x => (match symCap T t x with
    | some v => .val v h nx
    | none => .fail 95))
  | .min, _, x :: l => (match foldM2 (min2S pc) (ev sl x) (l.map (ev sl)) with
   | .ok v => .val v h nx
   | .split c => .split c
   | .fail n => .fail n)
  | .max, _, x :: l => (match foldM2 (max2S pc) (ev sl x) (l.map (ev sl)) with
   | .ok v => .val v h nx
   | .split c => .split c
   | .fail n => .fail n)
  | .append, t :: u :: _, x :: y :: _ => if intTy T u then symAppendZ T pc h nx t u (ev sl x) (ev sl y) else if isL (ev sl x) then symAppendL T pc h nx t u (ev sl x) (ev sl y) else if isL (ev sl y) then symAppendL T pc h nx t u (ev sl x) (ev sl y) else if newL pc h (ev sl x) (ev sl y) then symAppendL T pc h nx t u (ev sl x) (ev sl y) else symAppend T pc h nx t u (ev sl x) (ev sl y)
  | .copy, t :: _ :: _, x :: y :: _ => if isL (ev sl x) then symCopyL T pc h nx t (ev sl x) (ev sl y) else symCopy T pc h nx t (ev sl x) (ev sl y)
  | .clear, t :: _, x :: _ => if isL (ev sl x) then symClearL T pc h nx t (ev sl x) else symClear T h nx t (ev sl x)
  | _, _, _ => .fail 91)
 | .invoke _ _ => .fail 92
 | .value f => (match ev sl f with
  | .func (.func g) first captured => .enter g (first ++ c.args.toList.map (ev sl) ++ captured)
  | .func (.yield l) [] _ => .round l (c.args.toList.map (ev sl))
  | _ => .fail 93)
def opPick (pc : List BE) (h : SHeap) (nx : Nat) (sl : Slots) (c a b : Operand) : OR :=
 match ev sl c with
 | .bool t => (match dec pc t with
  | some true => .val (ev sl a) h nx
  | some false => .val (ev sl b) h nx
  | none => .split (atom pc t))
 | _ => .fail 1
def opAlloc (T : Tab) (h : SHeap) (nx : Nat) (t : TypeId) : OR :=
 match T.ty.get t with
 | some ti => newCells h nx ti.zero t
 | none => .fail 2
def runZ (k : IntKind) : List SV → Nat
 | .int j (.lit (.ofNat 0)) :: l => if keq k j then runZ k l + 1 else 0
 | _ => 0
def cutZ : List SV → Option (List SV × (IntKind × (Nat × List SV)))
 | [] => none
 | v :: l => (match v with
  | .int k (.lit (.ofNat 0)) => (match Nat.ble 25 (runZ k l + 1) with
   | true => some ([], (k, (runZ k l + 1, l.drop (runZ k l))))
   | false => (match cutZ l with
    | some (p, r) => some (v :: p, r)
    | none => none))
  | _ => (match cutZ l with
   | some (p, r) => some (v :: p, r)
   | none => none))
def objOf (cs : List SV) (t : TypeId) : SObj :=
 if Nat.ble cs.length 24 then .cells cs t else (match cutZ cs with
 | some (p, (k, (n, q))) => if SV.beqL cs (p ++ (reps [.int k (.lit 0)] n ++ q)) then .mix p (.rep (.int k (.lit 0) .nil) (.lit (n : Nat))) n k q t else .cells cs t
 | none => .cells cs t)
def opBox (h : SHeap) (nx : Nat) (sl : Slots) (t : TypeId) (x : Operand) : OR :=
 match (ev sl x).cells with
 | some cs => .val (.ptr nx 0) ((nx, objOf cs t) :: h) (nx + 1)
 | none => .fail 3
def loadG (T : Tab) (h : SHeap) (nx : Nat) (t : TypeId) (g off : Nat) : OR :=
 match T.ty.get t, lk T.orac.F.g g with
 | some ti, some cs => pickCs ti off h nx (cs.map ofScalar)
 | _, _ => .fail 42
def opLoad (T : Tab) (pc : List BE) (h : SHeap) (nx : Nat) (sl : Slots) (t : TypeId) (a : Operand) : OR :=
 match ev sl a with
 | .ptr n off => loadAt T h nx t n off
 | .rptr r i c => loadRom T pc h nx t r i c
 | .lptr n z i c => (match isMix h n with
  | true => loadM T pc h nx t n z i c
  | false => loadL T pc h nx t n z i c)
 | .const (.pointer (some ⟨g, off, none⟩)) => loadG T h nx t g off
 | _ => .fail 4
def opStore (T : Tab) (pc : List BE) (h : SHeap) (nx : Nat) (sl : Slots) (t : TypeId) (a x : Operand) : OR :=
 match ev sl a with
 | .ptr n off => storeAt T h nx t n off (ev sl x)
 | .lptr n z i c => (match isMix h n with
  | true => storeM T pc h nx t n z i c (ev sl x)
  | false => storeL T pc h nx t n z i c (ev sl x))
 | _ => .fail 5
def opNil (h : SHeap) (nx : Nat) (sl : Slots) (x : Operand) : OR :=
 match ev sl x with
 | .ptr n off => .val (.ptr n off) h nx
 | .rptr r i c => .val (.rptr r i c) h nx
 | .lptr n z i c => .val (.lptr n z i c) h nx
 | .func (.func f) a b => .val (.func (.func f) a b) h nx
 | _ => .fail 6
def nilTwo (T : Tab) (op : BinOp) (xt : TypeId) (y : Operand) (u : SV) : Option Bool :=
 match y with
 | .const .nilIface => (match u with
  | .const .nilIface => (match T.ty.get xt with
   | some ti => (match ti.und with
    | .iface => (match op with
     | .eql => some true
     | .neq => some false
     | _ => none)
    | _ => none)
   | none => none)
  | _ => none)
 | _ => none
def opBin (T : Tab) (pc : List BE) (h : SHeap) (nx : Nat) (sl : Slots) (op : BinOp) (xt : TypeId) (x y : Operand) : OR :=
 match nilTwo T op xt y (ev sl x) with
 | some b => .val (.bool (.lit b)) h nx
 | none => match symBin T pc op xt (ev sl x) (ev sl y) with
 | .ok v => fSV v fun v => .val v h nx
 | .split c => .split (atom pc c)
 | .fail n => .fail n
def opUn (pc : List BE) (h : SHeap) (nx : Nat) (sl : Slots) (op : UnOp) (x : Operand) : OR :=
 match symUn op pc (ev sl x) with
 | some v => fSV v fun v => .val v h nx
 | none => .fail 7
def convSame (h : SHeap) (nx : Nat) (x : SV) : OR :=
 match x with
 | .slice n off len cap => (match lk h n with
  | some (.cells cs u) => if Nat.beq off 0 then (if Nat.beq cap cs.length then (if Nat.ble cap 1000000 then newRowS (rmH n h) nx cs u 1 len else .fail 196) else .fail 196) else .fail 196
  | _ => .fail 196)
 | _ => .fail 196
def opConvI (T : Tab) (pc : List BE) (h : SHeap) (nx : Nat) (sl : Slots) (src dst : TypeId) (x : Operand) : OR :=
 match symConv T pc src dst (ev sl x) with
 | some v => fSV v fun v => .val v h nx
 | none => .fail 8
def opConv (T : Tab) (pc : List BE) (h : SHeap) (nx : Nat) (sl : Slots) (src dst : TypeId) (x : Operand) : OR :=
 match T.ty.get src, T.ty.get dst with
 | some ts, some td => (match ts.und, td.und with
  | .str, .str => (match ev sl x with
   | .str bs => .val (.str bs) h nx
   | _ => .fail 190)
  | .str, .slice e => (match T.ty.get e, ev sl x with
   | some te, .str bs => (match te.und with
    | .int .u8 => bytesS pc h nx e bs
    | _ => .fail 191)
   | _, _ => .fail 192)
  | .slice e, .str => (match T.ty.get e with
   | some te => (match te.und with
    | .int .u8 => strOf pc h nx (ev sl x)
    | _ => .fail 193)
   | none => .fail 194)
  | .slice e, .slice _ => if Nat.beq src dst then (match T.ty.get e with
   | some te => (match te.und with
    | .int .u8 => convSame h nx (ev sl x)
    | _ => .fail 197)
   | none => .fail 197) else .fail 197
  | _, _ => opConvI T pc h nx sl src dst x)
 | _, _ => .fail 195
def convL (T : Tab) (pc : List BE) (h : SHeap) (nx : Nat) (src dst : TypeId) (x : SV) : OR :=
 match T.ty.get src, T.ty.get dst with
 | some ts, some td => (match ts.und, td.und, x with
  | .str, .str, .lstr l => .val (.lstr l) h nx
  | .str, .slice e, .lstr l => (match T.ty.get e with
   | some te => (match te.und with
    | .int .u8 => bytesL1 T.orac.rom pc h nx e l
    | _ => .fail 191)
   | none => .fail 192)
  | .slice e, .str, x => (match T.ty.get e with
   | some te => (match te.und with
    | .int .u8 => strL1 T.orac.rom pc h nx x
    | _ => .fail 193)
   | none => .fail 194)
  | _, _, _ => .fail 195)
 | _, _ => .fail 195
def opConvX (T : Tab) (pc : List BE) (h : SHeap) (nx : Nat) (sl : Slots) (src dst : TypeId) (x : Operand) : OR :=
 match opConv T pc h nx sl src dst x with
 | .fail m => convL T pc h nx src dst (ev sl x)
 | r => r
def opExtract (h : SHeap) (nx : Nat) (sl : Slots) (t : Operand) (i : Nat) : OR :=
 match ev sl t with
 | .tup vs => (match nth vs i with
  | some v => .val v h nx
  | none => .fail 9)
 | _ => .fail 10
def opFunc (h : SHeap) (nx : Nat) (sl : Slots) (fn : Fn) (first captured : Array Operand) : OR :=
 match fn with
 | .yield _ => .fail 94
 | fn => .val (.func fn (first.toList.map (ev sl)) (captured.toList.map (ev sl))) h nx
def opBuild (T : Tab) (h : SHeap) (nx : Nat) (sl : Slots) (t : TypeId) (parts : Array (Nat × Operand)) : OR :=
 symBuild T h nx t (parts.toList.map fun p => (p.1, ev sl p.2))
def opBuildSlice (T : Tab) (h : SHeap) (nx : Nat) (sl : Slots) (t : TypeId) (len : Nat) (parts : Array (Nat × Operand)) : OR :=
 symBuildSlice T h nx t len (parts.toList.map fun p => (p.1, ev sl p.2))
def opMove (h : SHeap) (nx : Nat) (sl : Slots) (x : Operand) : OR := .val (ev sl x) h nx
def opFA (T : Tab) (h : SHeap) (nx : Nat) (sl : Slots) (s : TypeId) (x : Operand) (f : Nat) : OR := symFieldAddr T h nx s (ev sl x) f
def opF (T : Tab) (h : SHeap) (nx : Nat) (sl : Slots) (s : TypeId) (x : Operand) (f : Nat) : OR := symField T h nx s (ev sl x) f
def opIA (T : Tab) (pc : List BE) (h : SHeap) (nx : Nat) (sl : Slots) (t : TypeId) (x i : Operand) : OR := symIndexAddr T pc h nx t (ev sl x) (ev sl i)
def arrLong (T : Tab) (t : TypeId) : Option (Nat × (TI × TI)) :=
 match T.ty.get t with
 | some ti => (match ti.und with
  | .arr len e => if Nat.ble len 24 then none else (match T.ty.get e with
   | some te => some (len, (ti, te))
   | none => none)
  | _ => none)
 | none => none
def arrNew (h : SHeap) (nx : Nat) (t : TypeId) (len : Nat) (ti te : TI) : OR :=
 if Nat.ble len 1000000 then (match kindsOf te.zero with
  | some ks => (match toAL [] [] ks te.zero with
   | some a => if Nat.beq te.size 0 then .fail 670 else (if SV.beqL ti.zero (reps te.zero len) then .val (.ptr nx 0) ((nx, .rowl (.rep a (.lit (len : Nat))) (.lit (len : Nat)) ks t (nx + 1) te.size) :: h) (nx + 2) else .fail 671)
   | none => .fail 672)
  | none => .fail 673) else .fail 674
def opAllocX (T : Tab) (h : SHeap) (nx : Nat) (t : TypeId) : OR :=
 match arrLong T t with
 | some (len, (ti, te)) => arrNew h nx t len ti te
 | none => opAlloc T h nx t
def isRowl (h : SHeap) (n : Nat) : Bool :=
 match lk h n with
 | some (.rowl _ _ _ _ _ _) => true
 | _ => false
def arrAddr (T : Tab) (pc : List BE) (h : SHeap) (nx : Nat) (t : TypeId) (n : Nat) (e : IE) : OR :=
 match T.ty.get t, lk h n with
 | some ti, some (.rowl c tot ks u cn zs) => (match ti.und with
  | .arr len el => (match T.ty.get el with
   | some te => if Nat.beq te.size zs then needO pc (mkLe (.lit 0) e) (needO pc (mkNot (mkLe (.lit (len : Nat)) e)) (.val (.lptr n zs e 0) h nx) 680) 681 else .fail 682
   | none => .fail 683)
  | _ => .fail 684)
 | _, _ => .fail 685
def mixAddr (T : Tab) (pc : List BE) (h : SHeap) (nx : Nat) (t : TypeId) (n off : Nat) (e : IE) : OR :=
 match T.ty.get t, lk h n with
 | some ti, some (.mix pre l k _ _ _) => (match ti.und with
  | .arr len el => (match T.ty.get el with
   | some te => if Nat.beq te.size 1 then (if Nat.beq len k then needO pc (mkLe (.lit 0) e) (needO pc (mkNot (mkLe (.lit (len : Nat)) e)) (.val (.lptr n 1 e off) h nx) 680) 681 else .fail 682) else .fail 682
   | none => .fail 683)
  | _ => .fail 684)
 | _, _ => .fail 685
def opIAL (T : Tab) (pc : List BE) (h : SHeap) (nx : Nat) (sl : Slots) (t : TypeId) (x i : Operand) : OR :=
 match ev sl x, ev sl i with
 | .ptr n 0, .int _ e => if isRowl h n then arrAddr T pc h nx t n e else opIA T pc h nx sl t x i
 | _, _ => opIA T pc h nx sl t x i
def opIAX (T : Tab) (pc : List BE) (h : SHeap) (nx : Nat) (sl : Slots) (t : TypeId) (x i : Operand) : OR :=
 match ev sl x, ev sl i with
 | .ptr n off, .int _ e => (match isMixAt h n off with
  | true => mixAddr T pc h nx t n off e
  | false => opIAL T pc h nx sl t x i)
 | _, _ => opIAL T pc h nx sl t x i
def opI (T : Tab) (pc : List BE) (h : SHeap) (nx : Nat) (sl : Slots) (t : TypeId) (x i : Operand) : OR := symIndex T pc h nx t (ev sl x) (ev sl i)
inductive MF where
 | at (i : Nat)
 | none
 | split (c : BE)
 | fail
def findK (pc : List BE) (k : IntKind) (e : IE) : List SV → Nat → MF
 | [], _ => .none
 | .int j a :: l, i => if keq k j then (match dec pc (mkEq e a) with
  | some true => .at i
  | some false => findK pc k e l (Nat.succ i)
  | none => .split (atom pc (mkEq e a))) else .fail
 | _ :: _, _ => .fail
def intKey (T : Tab) (t : TypeId) : Option (IntKind × (TypeId × TypeId)) :=
 match T.ty.get t with
 | some ti => (match ti.und with
  | .map k e => (match T.ty.get k with
   | some tk => (match tk.und with
    | .int j => some (j, (k, e))
    | _ => none)
   | none => none)
  | _ => none)
 | none => none
def opLook (T : Tab) (pc : List BE) (h : SHeap) (nx : Nat) (sl : Slots) (t : TypeId) (x ix : Operand) (ok : Bool) : OR :=
 match intKey T t with
 | some (j, (_, e)) => (match ev sl ix with
  | .int k i => if keq j k then (match T.ty.get e with
   | some te => (match zeroS te with
    | some z => (match ev sl x with
     | .const (.map none) => .val (if ok then .tup [z, .bool (.lit false)] else z) h nx
     | .map n => (match lk h n with
      | some (.mapo ks vs _ _) => (match findK pc k i ks 0 with
       | .at q => (match nth vs q with
        | some v => .val (if ok then .tup [v, .bool (.lit true)] else v) h nx
        | none => .fail 180)
       | .none => .val (if ok then .tup [z, .bool (.lit false)] else z) h nx
       | .split c => .split c
       | .fail => .fail 181)
      | _ => .fail 182)
     | _ => .fail 183)
    | none => .fail 184)
   | none => .fail 184) else .fail 185
  | _ => .fail 186)
 | none => .fail 187
def opSet (T : Tab) (pc : List BE) (h : SHeap) (nx : Nat) (sl : Slots) (t : TypeId) (m k x : Operand) : OR :=
 match intKey T t with
 | some (j, _) => (match ev sl k with
  | .int kk i => if keq j kk then (match ev sl m with
   | .map n => (match lk h n with
    | some (.mapo ks vs bs c) => (match findK pc kk i ks 0 with
     | .at q => .val (.tup []) (up h n (.mapo ks (put vs q (ev sl x)) bs c)) nx
     | .none => .val (.tup []) (up h n (.mapo (ks ++ [.int kk i]) (vs ++ [ev sl x]) (bs ++ [c]) (c + 1))) nx
     | .split c => .split c
     | .fail => .fail 191)
    | _ => .fail 192)
   | _ => .fail 193) else .fail 195
  | _ => .fail 196)
 | none => .fail 197
def opMakeMap (h : SHeap) (nx : Nat) (r : Option Operand) : OR :=
 match r with
 | none => .val (.map nx) ((nx, .mapo [] [] [] 0) :: h) (nx + 1)
 | some _ => .fail 198
def symOp (T : Tab) (pc : List BE) (h : SHeap) (nx : Nat) (sl : Slots) (o : Oper) : OR :=
 match o.op with
 | .move x => opMove h nx sl x
 | .assign x => opMove h nx sl x
 | .pick c a b => opPick pc h nx sl c a b
 | .alloc t => opAllocX T h nx t
 | .box t x => opBox h nx sl t x
 | .build t parts => opBuild T h nx sl t parts
 | .buildSlice t len parts => opBuildSlice T h nx sl t len parts
 | .load t a => opLoad T pc h nx sl t a
 | .store t a x => opStore T pc h nx sl t a x
 | .nilCheck x => opNil h nx sl x
 | .binOp op xt x y _ => opBin T pc h nx sl op xt x y
 | .unOp op _ x => opUn pc h nx sl op x
 | .convert src dst x => opConvX T pc h nx sl src dst x
 | .makeFunc fn first captured => opFunc h nx sl fn first captured
 | .fieldAddr s x f => opFA T h nx sl s x f
 | .field s x f => opF T h nx sl s x f
 | .indexAddr t x i => opIAX T pc h nx sl t x i
 | .index t x i => opI T pc h nx sl t x i
 | .extract t i => opExtract h nx sl t i
 | .call c => symCall T pc h nx sl c
 | .slice t x lo hi mx => opSliceX T pc h nx sl t x lo hi mx
 | .makeSlice t l c => opMakeSliceX T pc h nx sl t l c
 | .makeInterface t x => opMakeI T h nx sl t x
 | .typeAssert x _ a ok => opAssert T h nx sl x a ok
 | .makeMap _ r => opMakeMap h nx r
 | .lookup t x ix ok => opLook T pc h nx sl t x ix ok
 | .insert t m k x => opSet T pc h nx sl t m k x
 | .mapUpdate t m k x => opSet T pc h nx sl t m k x
 | _ => .fail 99
end
end Go.Proofs.Ythenenacmiiphaa.Sx
namespace Go.Proofs.Ythenenacmiiphaa.Sx
open Go
noncomputable section

structure Sub where
 i : List (IntKind × Nat × IE)
 b : List (Nat × BE)
 l : List (Nat × LE)
 v : List (Nat × SV)
 a : List (Nat × Nat)
 r : List (Nat × LE)
def Sub.nil : Sub := ⟨[], [], [], [], [], []⟩
def lkI : List (IntKind × Nat × IE) → IntKind → Nat → Option IE
 | [], _, _ => none
 | (j, m, e) :: l, k, n => if keq j k then (if Nat.beq m n then some e else lkI l k n) else lkI l k n
def nmA (l : List (Nat × Nat)) (n : Nat) : Nat :=
 match lk l n with
 | some m => m
 | none => n
def nthL : LE → Nat → Option AL
 | .one c, 0 => some c
 | .cat (.one c) _, 0 => some c
 | .cat (.one _) r, n + 1 => nthL r n
 | _, _ => none
def intA (k : IntKind) : AL → Nat → Option Int
 | .int j (.lit z) _, 0 => if keq k j then (if ileb (kmin k) z then (if ileb z (kmax k) then some z else none) else none) else none
 | .int _ _ r, n + 1 => intA k r n
 | .bool _ r, n + 1 => intA k r n
 | .lst _ r, n + 1 => intA k r n
 | _, _ => none
def byteA : AL → Bool
 | .int k (.lit z) .nil => if keq k .u8 then (if ileb 0 z then ileb z 255 else false) else false
 | _ => false
def litB : LE → Bool
 | .nil => true
 | .one c => byteA c
 | .cat a b => if litB a then litB b else false
 | .var n => oddN n
 | .fn n _ => oddN n
 | .str _ _ _ => true
 | _ => false
def lstA : AL → Nat → Option LE
 | .lst l _, 0 => if litB l then some l else none
 | .int _ _ r, n + 1 => lstA r n
 | .bool _ r, n + 1 => lstA r n
 | .lst _ r, n + 1 => lstA r n
 | _, _ => none
def celK (k : IntKind) (l : LE) (i : IE) (j : Nat) : IE := match i with
 | .lit (.ofNat n) => (match nthL l n with
  | some c => (match intA k c j with
   | some z => .lit z
   | none => .cel k l (.lit (.ofNat n)) j)
  | none => .cel k l (.lit (.ofNat n)) j)
 | i => .cel k l i j
def strK (l : LE) (i : IE) (j : Nat) : LE := match i with
 | .lit (.ofNat n) => (match nthL l n with
  | some c => (match lstA c j with
   | some m => m
   | none => .str l (.lit (.ofNat n)) j)
  | none => .str l (.lit (.ofNat n)) j)
 | i => .str l i j
mutual
def IE.sb (pc : List BE) (S : Sub) : IE → IE
 | .lit n => .lit n
 | .var k n => (match lkI S.i k n with
  | some e => e
  | none => .var k n)
 | .add x y => .add (x.sb pc S) (y.sb pc S)
 | .sub x y => subE (x.sb pc S) (y.sb pc S)
 | .mul x y => .mul (x.sb pc S) (y.sb pc S)
 | .wrap k x => .wrap k (x.sb pc S)
 | .bin op k x y => .bin op k (x.sb pc S) (y.sb pc S)
 | .cel k l i j => celK k (l.sb pc S) (i.sb pc S) j
 | .len l => lenE pc (l.sb pc S)
 | .rcap r => .rcap r
 | .fn k n a => .fn k n (a.sb pc S)
 | .ite c x y => .ite (c.sb pc S) (x.sb pc S) (y.sb pc S)
def BE.sb (pc : List BE) (S : Sub) : BE → BE
 | .lit b => .lit b
 | .var n => (match lk S.b n with
  | some e => e
  | none => .var n)
 | .le x y => .le (x.sb pc S) (y.sb pc S)
 | .eq x y => .eq (x.sb pc S) (y.sb pc S)
 | .not x => mkNot (x.sb pc S)
 | .and x y => mkAnd (x.sb pc S) (y.sb pc S)
 | .iff x y => .iff (x.sb pc S) (y.sb pc S)
 | .cel l i j => .cel (l.sb pc S) (i.sb pc S) j
 | .leq a b => .leq (a.sb pc S) (b.sb pc S)
 | .rnil r => .rnil r
 | .fn n a => .fn n (a.sb pc S)
def LE.sb (pc : List BE) (S : Sub) : LE → LE
 | .nil => .nil
 | .var n => (match lk S.l n with
  | some e => e
  | none => .var n)
 | .rom r => (match lk S.r r with
  | some l => l
  | none => .rom r)
 | .cat a b => .cat (a.sb pc S) (b.sb pc S)
 | .one c => .one (c.sb pc S)
 | .set a i c => .set (a.sb pc S) (i.sb pc S) (c.sb pc S)
 | .take a i => .take (a.sb pc S) (i.sb pc S)
 | .drop a i => .drop (a.sb pc S) (i.sb pc S)
 | .rep c n => .rep (c.sb pc S) (n.sb pc S)
 | .str a i j => strK (a.sb pc S) (i.sb pc S) j
 | .fn n a => .fn n (a.sb pc S)
def AL.sb (pc : List BE) (S : Sub) : AL → AL
 | .nil => .nil
 | .int k e r => .int k (e.sb pc S) (r.sb pc S)
 | .bool b r => .bool (b.sb pc S) (r.sb pc S)
 | .lst l r => .lst (l.sb pc S) (r.sb pc S)
 | .cel l i j r => .cel (l.sb pc S) (i.sb pc S) j (r.sb pc S)
end
mutual
def IE.free : IE → Bool
 | .lit _ => true
 | .var _ n => Nat.blt n 1000
 | .add x y => if x.free then y.free else false
 | .sub x y => if x.free then y.free else false
 | .mul x y => if x.free then y.free else false
 | .wrap _ x => x.free
 | .bin _ _ x y => if x.free then y.free else false
 | .cel _ l i _ => if l.free then i.free else false
 | .len l => l.free
 | .rcap _ => false
 | .fn _ _ a => a.free
 | .ite c x y => if c.free then (if x.free then y.free else false) else false
def BE.free : BE → Bool
 | .lit _ => true
 | .var n => Nat.blt n 1000
 | .le x y => if x.free then y.free else false
 | .eq x y => if x.free then y.free else false
 | .not x => x.free
 | .and x y => if x.free then y.free else false
 | .iff x y => if x.free then y.free else false
 | .cel l i _ => if l.free then i.free else false
 | .leq a b => if a.free then b.free else false
 | .rnil _ => false
 | .fn _ a => a.free
def LE.free : LE → Bool
 | .nil => true
 | .var n => Nat.blt n 1000
 | .rom _ => true
 | .cat a b => if a.free then b.free else false
 | .one c => c.free
 | .set a i c => if a.free then (if i.free then c.free else false) else false
 | .take a i => if a.free then i.free else false
 | .drop a i => if a.free then i.free else false
 | .rep c n => if c.free then n.free else false
 | .str a i _ => if a.free then i.free else false
 | .fn _ a => a.free
def AL.free : AL → Bool
 | .nil => true
 | .int _ e r => if e.free then r.free else false
 | .bool b r => if b.free then r.free else false
 | .lst l r => if l.free then r.free else false
 | .cel l i _ r => if l.free then (if i.free then r.free else false) else false
end
def subFn (S : Sub) : Fn → Fn
 | .yield l => .yield (nmA S.a l)
 | f => f
def subIs (pc : List BE) (S : Sub) : List IE → List IE
 | [] => []
 | e :: l => e.sb pc S :: subIs pc S l
def subO (pc : List BE) (S : Sub) : Option IE → Option IE
 | none => none
 | some e => some (e.sb pc S)
mutual
def SV.sb (pc : List BE) (S : Sub) : SV → SV
 | .bool b => .bool (b.sb pc S)
 | .int k e => .int k (e.sb pc S)
 | .ptr n off => .ptr (nmA S.a n) off
 | .slice n off len cap => .slice (nmA S.a n) off len cap
 | .func fn f c => .func (subFn S fn) (SV.sbL pc S f) (SV.sbL pc S c)
 | .iface t v => .iface t (v.sb pc S)
 | .agg cs => .agg (SV.sbL pc S cs)
 | .tup vs => .tup (SV.sbL pc S vs)
 | .opq n => (match lk S.v n with
  | some v => v
  | none => .opq n)
 | .const v => .const v
 | .str bs => .str (subIs pc S bs)
 | .sl n cn sz off len => .sl (nmA S.a n) (nmA S.a cn) sz off len
 | .rom r off len cap => .rom r (off.sb pc S) (len.sb pc S) (subO pc S cap)
 | .rptr r i c => .rptr r (i.sb pc S) c
 | .sll n cn sz off len cap => .sll (nmA S.a n) (nmA S.a cn) sz (off.sb pc S) (len.sb pc S) (subO pc S cap)
 | .lptr n sz i c => .lptr (nmA S.a n) sz (i.sb pc S) c
 | .sle n cn sz off l => .sle (nmA S.a n) (nmA S.a cn) sz (off.sb pc S) (l.sb pc S)
 | .lstr l => .lstr (l.sb pc S)
 | .cel l i j => .cel (l.sb pc S) (i.sb pc S) j
 | .map n => .map (nmA S.a n)
def SV.sbL (pc : List BE) (S : Sub) : List SV → List SV
 | [] => []
 | v :: l => v.sb pc S :: SV.sbL pc S l
end
def subSl (pc : List BE) (S : Sub) : Slots → Slots
 | [] => []
 | l :: r => SV.sbL pc S l :: subSl pc S r
def SObj.sb (pc : List BE) (S : Sub) : SObj → SObj
 | .cells cs t => .cells (SV.sbL pc S cs) t
 | .row cs t cn sz => .row (SV.sbL pc S cs) t (nmA S.a cn) sz
 | .rowl c tot ks t cn sz => .rowl (c.sb pc S) (tot.sb pc S) ks t (nmA S.a cn) sz
 | .mix pre c len k post t => .mix (SV.sbL pc S pre) (c.sb pc S) len k (SV.sbL pc S post) t
 | .loop st pend fn tmps ps as body d => .loop st pend fn (subSl pc S tmps) ps as body (nmA S.a d)
 | .defd s => .defd s
 | .mapo ks vs bs c => .mapo (SV.sbL pc S ks) (SV.sbL pc S vs) bs c
def Sub.addI (S : Sub) (k : IntKind) (n : Nat) (e : IE) : Sub := match lkI S.i k n with
 | some _ => S
 | none => { S with i := (k, n, e) :: S.i }
def Sub.addB (S : Sub) (n : Nat) (e : BE) : Sub := match lk S.b n with
 | some _ => S
 | none => { S with b := (n, e) :: S.b }
def Sub.addL (S : Sub) (n : Nat) (e : LE) : Sub := match lk S.l n with
 | some _ => S
 | none => { S with l := (n, e) :: S.l }
def Sub.addV (S : Sub) (n : Nat) (e : SV) : Sub := match lk S.v n with
 | some _ => S
 | none => { S with v := (n, e) :: S.v }
def Sub.addA (S : Sub) (n m : Nat) : Sub := match lk S.a n with
 | some _ => S
 | none => { S with a := (n, m) :: S.a }
def SV.flat : SV → Bool
 | .bool b => b.free
 | .int _ e => e.free
 | .lstr l => l.free
 | .sll _ _ _ (.lit (.ofNat 0)) len none => len.free
 | .sll _ _ _ (.lit (.ofNat 0)) len (some c) => if len.free then c.free else false
 | .const (.slice none 0 0) => true
 | .const .nilIface => true
 | _ => false
def flatL : List SV → Bool
 | [] => true
 | v :: l => if v.flat then flatL l else false
def SV.flat1 : SV → Bool
 | .agg cs => flatL cs
 | v => v.flat
def flatL1 : List SV → Bool
 | [] => true
 | v :: l => if v.flat1 then flatL1 l else false
def SV.flatP : SV → Bool
 | .iface _ a => a.flat1
 | _ => false
def SV.flat2 : SV → Bool
 | .iface _ v => v.flatP
 | .tup vs => flatL1 vs
 | v => v.flat1
def flatH : SHeap → Bool
 | [] => true
 | (_, .rowl c tot _ _ _ _) :: h => if c.free then (if tot.free then flatH h else false) else false
 | _ => false
def freeL : List BE → Bool
 | [] => true
 | b :: l => if b.free then freeL l else false
abbrev Roms := List (Nat × (Nat × List CK))
structure Mt where
 S : Sub
 m : List (Nat × SV)
def matchLE : LE → LE → Sub → Sub
 | .cat a b, .cat c d, S => matchLE b d (matchLE a c S)
 | .var n, l, S => S.addL n l
 | .fn _ (.int _ (.var k j) .nil), .fn _ (.int _ e .nil), S => S.addI k j e
 | _, _, S => S
def matchV (roms : Roms) (pc : List BE) (h : SHeap) (cr : Roms) : SV → SV → Mt → Mt
 | .int _ (.var k n), .int _ e, M => { M with S := M.S.addI k n e }
 | .bool (.var n), .bool e, M => { M with S := M.S.addB n e }
 | .lstr (.var n), x, M => (match asL roms pc x with
  | some l => { M with S := M.S.addL n l }
  | none => M)
 | .lstr p, x, M => (match asL roms pc x with
  | some l => { M with S := matchLE p l M.S }
  | none => M)
 | .rom r _ _ _, x, M => (match lk cr r with
  | some (esz, _) => (match srcL roms pc h esz x with
   | some s => { S := { M.S with r := (r, s.l) :: M.S.r }, m := (r, x) :: M.m }
   | none => M)
  | none => M)
 | _, _, M => M
def matchL (roms : Roms) (pc : List BE) (h : SHeap) (cr : Roms) : List SV → List SV → Mt → Mt
 | p :: ps, v :: vs, M => matchL roms pc h cr ps vs (matchV roms pc h cr p v M)
 | _, _, M => M
def match1 (roms : Roms) (pc : List BE) (h : SHeap) (cr : Roms) : List SV → List SV → Mt → Mt
 | .agg p :: ps, .agg v :: vs, M => match1 roms pc h cr ps vs (matchL roms pc h cr p v M)
 | p :: ps, v :: vs, M => match1 roms pc h cr ps vs (matchV roms pc h cr p v M)
 | _, _, M => M
def capR (r : Nat) (len c : IE) : Bool := match len, c with
 | .sub (.len (.rom p)) l, .sub (.rcap q) m => if Nat.beq p r then (if Nat.beq q r then l.beq m else false) else false
 | _, _ => false
def capOk (pc : List BE) : SV → Bool
 | .rom r _ len (some c) => if capR r len c then true else (match dec pc (mkLe len c) with
  | some true => true
  | _ => false)
 | .sll _ _ _ _ len (some c) => (match dec pc (mkLe len c) with
  | some true => true
  | _ => false)
 | .slice _ _ len cap => Nat.ble len cap
 | .rom _ _ _ none => true
 | .sll _ _ _ _ _ none => true
 | .sle _ _ _ _ _ => true
 | .const (.slice none 0 0) => true
 | _ => false
def capOkH (pc : List BE) (h : SHeap) (y : SV) : Bool := match y with
 | .sl n cn sz off len => (match lk h n with
  | some (.row cs _ dn zs) => if Nat.beq dn cn then (if Nat.beq zs sz then Nat.ble (off * sz + len * sz) cs.length else false) else false
  | _ => false)
 | y => capOk pc y
def fitV (roms : Roms) (pc : List BE) (h : SHeap) (cr : Roms) (M : Mt) : SV → SV → Bool
 | .rom r (.lit (.ofNat 0)) (.len (.rom q)) none, x => if Nat.beq r q then (match lk cr r, lk M.m r with
  | some _, some y => SV.beq x y
  | _, _ => false) else false
 | .lstr (.var n), x => if oddN n then (match asL roms pc x, lk M.S.l n with
  | some l, some l' => l.beq l'
  | _, _ => false) else false
 | .lstr p, x => if p.free then (match asL roms pc x with
  | some l => (p.sb pc M.S).beq l
  | none => false) else false
 | .int k (.var j n), .int i e => if keq k i then (if keq k j then (if inK pc k e then (match lkI M.S.i j n with
  | some e' => e.beq e'
  | none => false) else false) else false) else false
 | .bool (.var n), .bool e => (match lk M.S.b n with
  | some e' => e.beq e'
  | none => false)
 | .int k (.lit a), .int j (.lit b) => if keq k j then ieqb a b else false
 | .bool (.lit a), .bool (.lit b) => a == b
 | .func (.func f) [] [], .func (.func g) [] [] => Nat.beq f g
 | .const .nilFunc, .const .nilFunc => true
 | .const (.slice none 0 0), .const (.slice none 0 0) => true
 | _, _ => false
def fitL (roms : Roms) (pc : List BE) (h : SHeap) (cr : Roms) (M : Mt) : List SV → List SV → Bool
 | [], [] => true
 | p :: ps, v :: vs => if fitV roms pc h cr M p v then fitL roms pc h cr M ps vs else false
 | _, _ => false
def fit1 (roms : Roms) (pc : List BE) (h : SHeap) (cr : Roms) (M : Mt) : List SV → List SV → Bool
 | [], [] => true
 | .agg p :: ps, .agg v :: vs => if fitL roms pc h cr M p v then fit1 roms pc h cr M ps vs else false
 | p :: ps, v :: vs => if fitV roms pc h cr M p v then fit1 roms pc h cr M ps vs else false
 | _, _ => false
def romsIn (roms : Roms) (pc : List BE) (h : SHeap) (M : Mt) : Roms → Bool
 | [] => true
 | (r, (esz, ks)) :: t => (match lk M.m r, lk M.S.r r with
  | some y, some l => if capOkH pc h y then (match srcL roms pc h esz y with
   | some s => if s.l.beq l then (if ksFits ks s.ks then (if Nat.beq ks.length esz then (match dec pc (mkLe (lenE pc l) (.lit 9223372036854775807)) with
    | some true => romsIn roms pc h M t
    | _ => false) else false) else false) else false
   | none => false) else false
  | _, _ => false)
def romsLen (pc : List BE) : List (Nat × LE) → Bool
 | [] => true
 | (_, l) :: t => (match dec pc (mkLe (lenE pc l) (.lit 9223372036854775807)) with
  | some true => romsLen pc t
  | _ => false)
def insK (pc : List BE) : List (IntKind × Nat × IE) → Bool
 | [] => true
 | (k, _, e) :: l => if inK pc k e then insK pc l else false
def oddsB (roms : Roms) (pc : List BE) : List (Nat × LE) → Bool
 | [] => true
 | (n, e) :: l => if oddN n then (if typedB roms pc e then (match dec pc (mkLe (lenE pc e) (.lit 9223372036854775807)) with
  | some true => oddsB roms pc l
  | _ => false) else false) else false
inductive PR where
 | ok
 | no
 | split (c : BE)
def preOk (pc : List BE) (S : Sub) : List BE → PR
 | [] => .ok
 | p :: l => (match dec pc (p.sb pc S) with
  | some true => preOk pc S l
  | some false => .no
  | none => .split (atom pc (p.sb pc S)))
def shiftA (nx : Nat) : Nat → Nat → List (Nat × Nat)
 | 0, _ => []
 | k + 1, n => (n, nx + n) :: shiftA nx k (n + 1)
def sbH (pc : List BE) (S : Sub) : SHeap → SHeap
 | [] => []
 | (n, o) :: h => (nmA S.a n, o.sb pc S) :: sbH pc S h
def sbPc (pc : List BE) (S : Sub) : List BE → List BE
 | [] => []
 | p :: l => p.sb pc S :: sbPc pc S l
structure Used where
 val : SV
 made : SHeap
 next : Nat
 post : List BE
inductive FR where
 | no
 | use (u : Used)
 | split (c : BE)
def useC (roms : Roms) (pc : List BE) (h : SHeap) (nx : Nat) (c : Ctr) (args : List SV) : FR :=
 match match1 roms pc h c.roms c.pat args ⟨Sub.nil, []⟩ with
 | M => if fit1 roms pc h c.roms M c.pat args then (if romsIn roms pc h M c.roms then (if insK pc M.S.i then (if oddsB roms pc M.S.l then (if romsLen pc M.S.r then (match preOk pc M.S c.pre with
   | .ok => (match { M.S with a := shiftA nx c.cnt 0 } with
    | S => .use ⟨c.res.sb pc S, sbH pc S c.heap, nx + c.cnt, sbPc pc S c.post⟩)
   | .no => .no
   | .split b => .split b) else .no) else .no) else .no) else .no) else .no
def findC (roms : Roms) (pc : List BE) (h : SHeap) (nx : Nat) (f : FuncId) (args : List SV) : List Ctr → FR
 | [] => .no
 | c :: l => if Nat.beq c.f f then (match iteL pc args with
  | some b => .split b
  | none => (match useC roms pc h nx c args with
   | .no => findC roms pc h nx f args l
   | r => r)) else findC roms pc h nx f args l
mutual
def SV.names : SV → List Nat
 | .ptr n _ => [n]
 | .slice n _ _ _ => [n]
 | .func (.yield l) f c => l :: (SV.namesL f ++ SV.namesL c)
 | .func _ f c => SV.namesL f ++ SV.namesL c
 | .iface _ v => v.names
 | .sl n cn _ _ _ => [n, cn]
 | .sll n cn _ _ _ _ => [n, cn]
 | .lptr n _ _ _ => [n]
 | .sle n cn _ _ _ => [n, cn]
 | .map n => [n]
 | .agg cs => SV.namesL cs
 | .tup vs => SV.namesL vs
 | _ => []
def SV.namesL : List SV → List Nat
 | [] => []
 | v :: l => v.names ++ SV.namesL l
end
def memN (n : Nat) : List Nat → Bool
 | [] => false
 | m :: l => if Nat.beq m n then true else memN n l
def addAll : List Nat → List Nat → List Nat
 | [], acc => acc
 | n :: l, acc => if memN n acc then addAll l acc else addAll l (n :: acc)
def SObj.names : SObj → List Nat
 | .cells cs _ => SV.namesL cs
 | .row cs _ cn _ => cn :: SV.namesL cs
 | .rowl _ _ _ _ cn _ => [cn]
 | .mix pre _ _ _ post _ => SV.namesL pre ++ SV.namesL post
 | .mapo ks vs _ _ => SV.namesL ks ++ SV.namesL vs
 | .loop _ _ _ tmps _ _ _ d => d :: SV.namesL (tmps.flatMap (·.take 8))
 | .defd _ => []
def stLoop : LoopState → Nat
 | .ready => 0 | .busy => 1 | .done => 2 | .exhausted => 3
def subNs (S : Sub) : List Nat → List Nat
 | [] => []
 | n :: l => nmA S.a n :: subNs S l
def rmAll (h : SHeap) : List Nat → SHeap
 | [] => h
 | n :: l => rmAll (rmH n h) l
def colI (qq : Nat) (t a : IE) (S : Sub) : Sub := match t with
 | .var k n => if Nat.ble qq n then S.addI k n a else S
 | _ => S
def colB (qq : Nat) (t a : BE) (S : Sub) : Sub := match t with
 | .var n => if Nat.ble qq n then S.addB n a else S
 | _ => S
def colE (qq : Nat) (t a : LE) (S : Sub) : Sub := match t with
 | .var n => if Nat.ble qq n then S.addL n a else S
 | _ => S
def colIs (qq : Nat) : List IE → List IE → Sub → Sub
 | t :: l, a :: m, S => colIs qq l m (colI qq t a S)
 | _, _, S => S
mutual
def colV (qq : Nat) : SV → SV → Sub → Sub
 | .int _ t, .int _ a, S => colI qq t a S
 | .bool t, .bool a, S => colB qq t a S
 | .opq n, a, S => if Nat.ble qq n then S.addV n a else S
 | .ptr n _, .ptr m _, S => S.addA n m
 | .slice n _ _ _, .slice m _ _ _, S => S.addA n m
 | .sl n c _ _ _, .sl m d _ _ _, S => (S.addA n m).addA c d
 | .agg l, .agg m, S => colL qq l m S
 | .tup l, .tup m, S => colL qq l m S
 | .func (.yield n) f c, .func (.yield m) g d, S => colL qq c d (colL qq f g (S.addA n m))
 | .func _ f c, .func _ g d, S => colL qq c d (colL qq f g S)
 | .iface _ v, .iface _ u, S => colV qq v u S
 | .rom _ a b (some k), .rom _ c d (some q), S => colI qq k q (colI qq b d (colI qq a c S))
 | .rom _ a b _, .rom _ c d _, S => colI qq b d (colI qq a c S)
 | .rptr _ a _, .rptr _ b _, S => colI qq a b S
 | .str l, .str m, S => colIs qq l m S
 | .sll n c _ a b (some k), .sll m d _ e f (some q), S => colI qq k q (colI qq b f (colI qq a e ((S.addA n m).addA c d)))
 | .sll n c _ a b _, .sll m d _ e f _, S => colI qq b f (colI qq a e ((S.addA n m).addA c d))
 | .lptr n _ a _, .lptr m _ b _, S => colI qq a b (S.addA n m)
 | .sle n c _ a b, .sle m d _ e f, S => colI qq b f (colI qq a e ((S.addA n m).addA c d))
 | .map n, .map m, S => S.addA n m
 | .lstr l, .lstr m, S => colE qq l m S
 | .lstr l, .str bs, S => colE qq l (strL bs) S
 | _, _, S => S
def colL (qq : Nat) : List SV → List SV → Sub → Sub
 | v :: l, u :: m, S => colL qq l m (colV qq v u S)
 | _, _, S => S
end
def colSl (qq : Nat) : Slots → Slots → Sub → Sub
 | l :: r, m :: q, S => colSl qq r q (colL qq l m S)
 | _, _, S => S
def colNs : List Nat → List Nat → Sub → Sub
 | n :: l, m :: k, S => colNs l k (S.addA n m)
 | _, _, S => S
def colO (qq : Nat) (t a : SObj) (S : Sub) : Sub := match t, a with
 | .cells l _, .cells m _ => colL qq l m S
 | .row l _ c _, .row m _ d _ => colL qq l m (S.addA c d)
 | .rowl l x _ _ c _, .rowl m y _ _ d _ => colI qq x y (colE qq l m (S.addA c d))
 | .mix p l _ _ q _, .mix p' m _ _ q' _ => colL qq p p' (colL qq q q' (colE qq l m S))
 | .mapo a b _ _, .mapo c d _ _ => colL qq b d (colL qq a c S)
 | .loop _ _ _ t _ _ _ d, .loop _ _ _ a _ _ _ e => colSl qq t a (S.addA d e)
 | _, _ => S
def colH (qq : Nat) (h : SHeap) : SHeap → Sub → Sub
 | [], S => S
 | (n, o) :: l, S => (match lk h (nmA S.a n) with
  | some a => colH qq h l (colO qq o a S)
  | none => colH qq h l S)

def eqSl : Slots → Slots → Bool
 | [], [] => true
 | l :: r, m :: q => if SV.beqL l m then eqSl r q else false
 | _, _ => false
def eqNs : List Nat → List Nat → Bool
 | [], [] => true
 | n :: l, m :: k => if Nat.beq n m then eqNs l k else false
 | _, _ => false
def eqON : Option Nat → Option Nat → Bool
 | none, none => true
 | some n, some m => Nat.beq n m
 | _, _ => false
def noPend : Option Code → Bool
 | none => true
 | some _ => false
def fitO (pc : List BE) (S : Sub) (t a : SObj) : Bool :=
 match t, a with
 | .cells l ty, .cells m ty' => if Nat.beq ty ty' then SV.beqL (SV.sbL pc S l) m else false
 | .row l ty c z, .row m ty' d z' => if Nat.beq ty ty' then (if Nat.beq (nmA S.a c) d then (if Nat.beq z z' then SV.beqL (SV.sbL pc S l) m else false) else false) else false
 | .rowl l x ks ty c z, .rowl m y js ty' d z' => if Nat.beq ty ty' then (if Nat.beq (nmA S.a c) d then (if Nat.beq z z' then (if ksEq ks js then (if (x.sb pc S).beq y then (l.sb pc S).beq m else false) else false) else false) else false) else false
 | .mix p l n k q ty, .mix p' m n' k' q' ty' => if Nat.beq ty ty' then (if Nat.beq n n' then (if keq k k' then (if SV.beqL (SV.sbL pc S p) p' then (if SV.beqL (SV.sbL pc S q) q' then (l.sb pc S).beq m else false) else false) else false) else false) else false
 | .loop st p fn tm ps _ _ d, .loop st' p' fn' tm' ps' _ _ d' => if Nat.beq (stLoop st) (stLoop st') then (if noPend p then (if noPend p' then (if Nat.beq fn fn' then (if eqSl (subSl pc S tm) tm' then (if eqNs ps ps' then Nat.beq (nmA S.a d) d' else false) else false) else false) else false) else false) else false
 | .defd s, .defd s' => s == s'
 | .mapo a b l c, .mapo a' b' l' c' => if SV.beqL (SV.sbL pc S a) a' then (if SV.beqL (SV.sbL pc S b) b' then (if eqNs l l' then Nat.beq c c' else false) else false) else false
 | _, _ => false
def fitH (pc : List BE) (S : Sub) (h : SHeap) : SHeap → Bool
 | [] => true
 | (n, o) :: l => (match lk h (nmA S.a n) with
  | some a => if fitO pc S o a then fitH pc S h l else false
  | none => false)
def apartN (S : Sub) : SHeap → List Nat → Bool
 | [], _ => true
 | (n, _) :: l, seen => if memN (nmA S.a n) seen then false else apartN S l (nmA S.a n :: seen)
def inRows (n : Nat) : SHeap → Bool
 | [] => false
 | (_, .rowl (.var m) _ _ _ _ _) :: l => if Nat.beq n m then true else inRows n l
 | _ :: l => inRows n l
def oddTy (roms : List (Nat × (Nat × List CK))) (pc : List BE) (n : Nat) (e : LE) : Bool := if oddN n then typedB roms pc e else true
def lenTy (pc : List BE) (t : SHeap) (n : Nat) (e : LE) : Bool := if inRows n t then true else (match dec pc (mkLe (lenE pc e) (.lit 9223372036854775807)) with
  | some true => true
  | _ => false)
def okLs (roms : List (Nat × (Nat × List CK))) (pc : List BE) (t : SHeap) : List (Nat × LE) → Bool
 | [] => true
 | (n, e) :: l => if oddTy roms pc n e then (if lenTy pc t n e then okLs roms pc t l else false) else false
def plainO : SObj → Bool
 | .loop _ _ _ _ _ _ _ _ => false
 | .defd _ => false
 | _ => true
def plainH : SHeap → Bool
 | [] => true
 | (_, o) :: l => if plainO o then plainH l else false
def heapNs : SHeap → List Nat
 | [] => []
 | (n, o) :: l => n :: (o.names ++ heapNs l)
def belowL (S : Sub) (nx cnt0 : Nat) : List Nat → Bool
 | [] => true
 | n :: l => if (if Nat.blt n cnt0 then Nat.blt (nmA S.a n) nx else true) then belowL S nx cnt0 l else false
def belowA (nx : Nat) : List Nat → Bool
 | [] => true
 | n :: l => if Nat.blt n nx then belowA nx l else false
def belowV (nx : Nat) : List (Nat × SV) → Bool
 | [] => true
 | (_, v) :: l => if belowA nx v.names then belowV nx l else false
def namesM (c : Mtr) : List Nat := c.res.names ++ heapNs c.hq
def shiftM (nx c : Nat) : Nat → List (Nat × Nat)
 | 0 => []
 | k + 1 => (c + k, nx + k) :: shiftM nx c k
def goneM (hq : SHeap) : SHeap → List Nat
 | [] => []
 | (n, _) :: l => (match lk hq n with
  | some _ => goneM hq l
  | none => n :: goneM hq l)
structure UsedX where
 val : SV
 heap : SHeap
 next : Nat
 post : List BE
inductive FX where
 | no
 | use (u : UsedX)
 | split (c : BE)
def romsSub (roms : Roms) : Roms → Bool
 | [] => true
 | (r, (e, ks)) :: t => (match lk roms r with
  | some (e', ks') => if Nat.beq e e' then (if ksEq ks ks' then romsSub roms t else false) else false
  | none => false)
def useM (roms : Roms) (pc : List BE) (h : SHeap) (nx : Nat) (c : Mtr) (args : List SV) : FX :=
 match colH 0 h c.hp (colL 0 c.pat args Sub.nil) with
 | S => if SV.beqL (SV.sbL pc S c.pat) args then (if fitH pc S h c.hp then (if apartN S c.hp [] then (if insK (.lit true :: pc) S.i then (if okLs roms (.lit true :: pc) c.hp S.l then (match S.r, belowV nx S.v with
   | [], true => if romsSub roms c.roms then (if belowL S nx c.cnt0 (namesM c) then (match preOk pc S c.pre with
    | .ok => (match { S with a := shiftM nx c.cnt0 (Nat.sub c.cnt c.cnt0) ++ S.a } with
     | S2 => .use ⟨c.res.sb pc S2, sbH pc S2 c.hq ++ rmAll h (subNs S (goneM c.hq c.hp)), Nat.add nx (Nat.sub c.cnt c.cnt0), sbPc pc S2 c.post⟩)
    | .no => .no
    | .split b => .split b) else .no) else .no
   | _, _ => .no) else .no) else .no) else .no) else .no) else .no
def findM (roms : Roms) (pc : List BE) (h : SHeap) (nx : Nat) (f : FuncId) (args : List SV) : List Mtr → FX
 | [] => .no
 | c :: l => if Nat.beq c.f f then (match useM roms pc h nx c args with
   | .no => findM roms pc h nx f args l
   | r => r) else findM roms pc h nx f args l
def findX (o : Orc) (pc : List BE) (h : SHeap) (nx : Nat) (f : FuncId) (args : List SV) : FX :=
 match findC o.rom pc h nx f args o.ctr with
 | .use u => .use ⟨u.val, u.made ++ h, u.next, u.post⟩
 | .split b => .split b
 | .no => findM o.rom pc h nx f args o.mem
end
end Go.Proofs.Ythenenacmiiphaa.Sx
namespace Go.Proofs.Ythenenacmiiphaa.Sx
open Go
noncomputable section

inductive Res where
 | next (c : Cfg)
 | many (l : List Cfg)
 | split (c : BE)
 | done (v : SV)
 | fail (n : Nat)
structure Leaf where
 pc : List BE
 val : SV
 heap : SHeap
 next : Nat
inductive Out where
 | leaves (l : List Leaf)
 | fail (n : Nat) (at_ : Nat)
def Out.app : Out → Out → Out
 | .leaves l, .leaves m => .leaves (l ++ m)
 | .fail n a, _ => .fail n a
 | _, .fail n a => .fail n a
def putD (sl : Slots) (dst : Option Tmp) (v : SV) : Slots :=
 match dst with
 | some d => put2 sl d v
 | none => sl
inductive WR where
 | run
 | skip
 | split (c : BE)
 | fail
def wantedS (pc : List BE) (ops : List Oper) (sl : Slots) (o : Oper) : WR :=
 match o.guard with
 | none => .run
 | some (j, want) => match nth ops j with
  | none => .skip
  | some oj => match oj.dst with
   | none => .skip
   | some d => match get2 sl d with
    | none => .skip
    | some (.bool b) => (match dec pc b with
     | some r => if r == want then .run else .skip
     | none => .split (atom pc b))
    | some (.tup _) => .skip
    | _ => .fail

def reachGo (h : SHeap) : Nat → List Nat → List Nat → List Nat
 | 0, _, acc => acc
 | _ + 1, [], acc => acc
 | k + 1, n :: todo, acc => match lk h n with
  | some o => if memN n acc then reachGo h k todo acc else reachGo h k (o.names ++ todo) (n :: acc)
  | none => reachGo h k todo acc
def reach (h : SHeap) (ns : List Nat) : List Nat := reachGo h 200 ns []
def keepH (ns : List Nat) : SHeap → SHeap
 | [] => []
 | (n, o) :: h => if memN n ns then (n, o) :: keepH ns h else keepH ns h

structure Eff where
 dst : Option Tmp
 val : SV
 touch : List Nat
 writes : SHeap
 gone : List Nat
 made : SHeap
 lo : Nat
 hi : Nat
structure PJ where
 j : Nat
 e : Eff
 v : SV
structure RLeaf where
 pc : List BE
 effs : List Eff
 sl : Slots
 heap : SHeap
 next : Nat
 pj : Option PJ
inductive RR where
 | leaves (l : List RLeaf)
 | fail (n : Nat)
def RR.app : RR → RR → RR
 | .leaves l, .leaves m => .leaves (l ++ m)
 | .fail n, _ => .fail n
 | _, .fail n => .fail n
def isPure : Op → Bool
 | .load .. => false
 | .store .. => false
 | .call c => (match c.callee with
  | .builtin .len => true
  | .builtin .min => true
  | .builtin .max => true
  | .builtin .cap => true
  | _ => false)
 | .slice .. => false
 | .convert .. => false
 | .lookup .. => false
 | .insert .. => false
 | .mapUpdate .. => false
 | _ => true
def SObj.beq : SObj → SObj → Bool
 | .cells a t, .cells b u => if Nat.beq t u then SV.beqL a b else false
 | .row a t n z, .row b u m y => if Nat.beq t u then (if Nat.beq n m then (if Nat.beq z y then SV.beqL a b else false) else false) else false
 | .rowl a x ks t n z, .rowl b y js u m w => if Nat.beq t u then (if Nat.beq n m then (if Nat.beq z w then (if ksEq ks js then (if x.beq y then a.beq b else false) else false) else false) else false) else false
 | .mix p a n k q t, .mix p' b m j q' u => if Nat.beq t u then (if Nat.beq n m then (if keq k j then (if SV.beqL p p' then (if SV.beqL q q' then a.beq b else false) else false) else false) else false) else false
 | .mapo a b l c, .mapo a' b' l' c' => if SV.beqL a a' then (if SV.beqL b b' then (if eqNs l l' then Nat.beq c c' else false) else false) else false
 | _, _ => false
def goneOf (h h' : SHeap) : List Nat → List Nat
 | [] => []
 | n :: ns => (match lk h n, lk h' n with
  | some _, none => n :: goneOf h h' ns
  | _, _ => goneOf h h' ns)
def writesOf (h h' : SHeap) : List Nat → Option SHeap
 | [] => some []
 | n :: ns => match lk h n, lk h' n, writesOf h h' ns with
  | some o, some o', some ws => if o.beq o' then some ws else some ((n, o') :: ws)
  | none, _, ws => ws
  | some _, none, ws => ws
  | _, _, _ => none
def madeOf (nx : Nat) : SHeap → SHeap
 | [] => []
 | (n, o) :: h => if Nat.ble nx n then (n, o) :: madeOf nx h else madeOf nx h
def upAll (h : SHeap) : SHeap → SHeap
 | [] => h
 | (n, o) :: ws => upAll (up h n o) ws
def frameOf (f : FuncId) (fn : Func) (body : Code) (args : List SV) : SFrame :=
 { fn := f, tmps := chunk (args.length + fn.ntmps) (args ++ List.replicate (fn.ntmps - args.length) (.tup [])), todo := [.code body], defers := [], md := ⟨.run, false, []⟩, round := none }
def calm : List Leaf → Bool
 | [] => true
 | l :: ls => (match panV l.val with
  | none => calm ls
  | some _ => false)
def calmV (v : SV) (o : Out) : Out :=
 match panV v with
 | none => o
 | some _ => .fail 216 0
def aloneP (T : Tab) (sub : Cfg → Out) (pc : List BE) (hF : SHeap) (nx : Nat) (sl : Slots) (o : Oper) : Out ⊕ BE :=
 match symOp T pc hF nx sl o with
 | .val v h' nx' => .inl (calmV v (.leaves [{ pc := pc, val := v, heap := h', next := nx' }]))
 | .enter f args => (match T.fn.get f with
  | some fn => (match fn.body with
   | some c => (match findO f args T.orac.l with
    | some r => (match dec pc r.c with
     | some true => .inl (calmV r.yes (.leaves [{ pc := pc, val := r.yes, heap := hF, next := nx }]))
     | some false => .inl (calmV r.no (.leaves [{ pc := pc, val := r.no, heap := hF, next := nx }]))
     | none => .inr (atom pc r.c))
    | none => (match findX T.orac pc hF nx f args with
     | .use u => .inl (.leaves [{ pc := u.post ++ pc, val := u.val, heap := u.heap, next := u.next }])
     | .split b => .inr b
     | .no => .inl (sub { top := frameOf f fn c args, rest := [], heap := hF, next := nx, pc := pc })))
   | none => .inl (.fail 201 f))
  | none => .inl (.fail 202 f))
 | .round _ _ => .inl (.fail 203 0)
 | .split c => .inr c
 | .fail n => .inl (.fail n 0)
def opNames (sl : Slots) (o : Oper) : List Nat := SV.namesL (o.op.operands.toList.map (ev sl))
def touchOf (h : SHeap) (sl : Slots) (o : Oper) : List Nat :=
 match o.op with
 | .load _ a => (ev sl a).names
 | .store _ a _ => (ev sl a).names
 | .slice .. => opNames sl o
 | .convert .. => opNames sl o
 | .lookup _ x _ _ => (ev sl x).names
 | .insert _ m _ _ => (ev sl m).names
 | .mapUpdate _ m _ _ => (ev sl m).names
 | .call c => (match c.callee with
  | .builtin _ => opNames sl o
  | _ => reach h (opNames sl o))
 | _ => reach h (opNames sl o)
def fCells {β : Type} : List SV → (List SV → β) → β
 | [], k => k []
 | v :: l, k => fSV v fun v => fCells l fun l => k (v :: l)
def fWs {β : Type} : SHeap → (SHeap → β) → β
 | [], k => k []
 | (n, o) :: l, k => (match o with
  | .cells cs t => fCells cs fun cs => fWs l fun l => k ((n, .cells cs t) :: l)
  | .row cs t c z => fCells cs fun cs => fWs l fun l => k ((n, .row cs t c z) :: l)
  | o => fWs l fun l => k ((n, o) :: l))
def effOf (o : Oper) (F : List Nat) (h : SHeap) (nx : Nat) (lf : Leaf) : Option Eff :=
 match writesOf h lf.heap F with
 | none => none
 | some ws => some { dst := o.dst, val := lf.val, touch := F, writes := ws, gone := goneOf h lf.heap F, made := madeOf nx (keepH (reach lf.heap (lf.val.names ++ F)) lf.heap), lo := nx, hi := lf.next }
def overLeaves (k : Leaf → RR) : List Leaf → RR
 | [] => .leaves []
 | l :: ls => RR.app (k l) (overLeaves k ls)
def bindsA (e : Edge) : Bool :=
 match e.ground with
 | .textOnly _ => false
 | .gcOnly _ => false
 | _ => true
def maskOf (bef : List Nat) : List Edge → Nat
 | [] => 0
 | e :: l => if bindsA e then Nat.lor (Nat.lor (Nat.shiftLeft 1 e.on) ((nth bef e.on).getD 0)) (maskOf bef l) else maskOf bef l
def masks : List Oper → List Nat → List Nat
 | [], bef => bef
 | o :: l, bef => fnat (maskOf bef o.after.toList) fun m => masks l (bef ++ [m])
def bitOf (m i : Nat) : Bool := Nat.beq (Nat.land (Nat.shiftRight m i) 1) 1
def disj (a b : List Nat) : Bool :=
 match a with
 | [] => true
 | n :: l => if memN n b then false else disj l b
def dom (h : SHeap) : List Nat := h.map (·.1)
def freshIn (lo hi : Nat) : List Nat → Bool
 | [] => true
 | n :: l => if Nat.ble lo n then (if Nat.blt n hi then false else freshIn lo hi l) else freshIn lo hi l
def objsNames : SHeap → List Nat
 | [] => []
 | (n, o) :: h => n :: (o.names ++ objsNames h)
def minds (i j : Eff) : Bool :=
 if disj (i.gone ++ dom i.writes) j.touch then
  (if Nat.beq i.lo i.hi then true else (if (if freshIn i.lo i.hi j.touch then freshIn i.lo i.hi j.val.names else false) then (if freshIn i.lo i.hi (objsNames j.writes) then freshIn i.lo i.hi (objsNames j.made) else false) else false))
 else false
def loud (i : Eff) : Bool :=
 match i.gone, i.writes with
 | [], [] => if Nat.beq i.lo i.hi then false else true
 | _, _ => true
def against (i : Eff) (ii bi : Nat) (masks : List Nat) : List Eff → Nat → Bool
 | [], _ => true
 | j :: l, k =>
  if Nat.beq k ii then against i ii bi masks l (k + 1)
  else if bitOf bi k then against i ii bi masks l (k + 1)
  else if bitOf ((nth masks k).getD 0) ii then against i ii bi masks l (k + 1)
  else if minds i j then against i ii bi masks l (k + 1) else false
def memOk (all : List Eff) (masks : List Nat) : List Eff → Nat → Bool
 | [], _ => true
 | i :: l, k => if loud i then (if against i k ((nth masks k).getD 0) masks all 0 then memOk all masks l (k + 1) else false) else memOk all masks l (k + 1)
def noEff (nx : Nat) : Eff := { dst := none, val := .tup [], touch := [], writes := [], gone := [], made := [], lo := nx, hi := nx }
def behindP (pj : Option PJ) (m : Nat) : Bool :=
 match pj with
 | none => false
 | some q => bitOf m q.j
def regGo (T : Tab) (sub : Cfg → Out) (ops : List Oper) (ms : List Nat) : Nat → List Oper → Nat → List BE → Slots → SHeap → Nat → List Eff → Option PJ → RR
 | 0, _, _, _, _, _, _, _, _ => .fail 209
 | _ + 1, [], _, pc, sl, h, nx, effs, pj => .leaves [{ pc := pc, effs := effs.reverse, sl := sl, heap := h, next := nx, pj := pj }]
 | k + 1, o :: l, i, pc, sl, h, nx, effs, pj =>
  if behindP pj ((nth ms i).getD 0) then regGo T sub ops ms k l (Nat.succ i) pc sl h nx (noEff nx :: effs) pj else
  match wantedS pc ops sl o with
  | .fail => .fail 210
  | .split c => fBE c fun c => RR.app (regGo T sub ops ms k (o :: l) i (c :: pc) sl h nx effs pj) (regGo T sub ops ms k (o :: l) i (.not c :: pc) sl h nx effs pj)
  | .skip => regGo T sub ops ms k l (Nat.succ i) pc (putD sl o.dst (.tup [])) h nx ({ dst := o.dst, val := .tup [], touch := [], writes := [], gone := [], made := [], lo := nx, hi := nx } :: effs) pj
  | .run => fL (if isPure o.op then [] else touchOf h sl o) fun F =>
   match aloneP T sub pc (keepH F h) nx sl o with
   | .inr c => fBE c fun c => RR.app (regGo T sub ops ms k (o :: l) i (c :: pc) sl h nx effs pj) (regGo T sub ops ms k (o :: l) i (.not c :: pc) sl h nx effs pj)
   | .inl (.fail n _) => .fail n
   | .inl (.leaves ls) => overLeaves (fun lf => match effOf o F h nx lf with
    | none => .fail 211
    | some e => (match panV lf.val with
     | none => fWs e.writes fun ws => fL (e.made ++ rmAll (upAll h ws) e.gone) fun h2 => regGo T sub ops ms k l (Nat.succ i) lf.pc (putD sl o.dst lf.val) h2 lf.next (e :: effs) pj
     | some v => (match pj with
      | some _ => .fail 215
      | none => regGo T sub ops ms k l (Nat.succ i) lf.pc sl h lf.next (noEff lf.next :: effs) (some { j := i, e := e, v := v })))) ls
def againstP (e : Eff) (j bj : Nat) (ms : List Nat) : List Eff → Nat → Bool
 | [], _ => true
 | a :: l, i =>
  if Nat.beq i j then againstP e j bj ms l (Nat.succ i)
  else if bitOf ((nth ms i).getD 0) j then againstP e j bj ms l (Nat.succ i)
  else if bitOf bj i then againstP e j bj ms l (Nat.succ i)
  else (match a.writes, a.gone with
   | [], [] => if minds a e then (if minds e a then againstP e j bj ms l (Nat.succ i) else false) else false
   | _, _ => false)
def pjOk (ms : List Nat) (r : RLeaf) : Bool :=
 match r.pj with
 | none => true
 | some q => againstP q.e q.j ((nth ms q.j).getD 0) ms r.effs 0
def allOk (T : Tab) (masks : List Nat) : List RLeaf → Bool
 | [] => true
 | r :: l => if memOk r.effs masks r.effs 0 then (if pjOk masks r then allOk T masks l else false) else false
def region (T : Tab) (sub : Cfg → Out) (fuel : Nat) (pc : List BE) (ops : List Oper) (sl : Slots) (h : SHeap) (nx : Nat) : RR :=
 fL (masks ops []) fun ms => match regGo T sub ops ms fuel ops 0 pc sl h nx [] none with
 | .leaves ls => if allOk T ms ls then .leaves ls else .fail 220
 | r => r
def noPj : List RLeaf → Bool
 | [] => true
 | r :: l => (match r.pj with
  | none => noPj l
  | some _ => false)
def cutAt (T : Tab) (sub : Cfg → Out) (fuel : Nat) (pc : List BE) (ops : List Oper) (sl : Slots) (h : SHeap) (nx : Nat) : Nat → Nat → Nat
 | 0, i => i
 | n + 1, i => match regGo T sub ops [] fuel (ops.take (i + 1)) 0 pc sl h nx [] none with
  | .leaves ls => if noPj ls then cutAt T sub fuel pc ops sl h nx n (i + 1) else i
  | .fail _ => i
def belowB (m : Nat) : Nat → Bool
 | 0 => true
 | i + 1 => if bitOf m i then belowB m i else false
def chainB (ms : List Nat) : Nat → Nat → Bool
 | 0, _ => true
 | n + 1, j => if bitOf ((nth ms (j + 1)).getD 0) j then chainB ms n (j + 1) else false
def oneLine (ops : List Oper) (p : Nat) : Bool :=
 fL (masks ops []) fun ms => if Nat.blt p ops.length then (if belowB ((nth ms p).getD 0) p then chainB ms (ops.length - (p + 1)) p else false) else false
def regionPre (T : Tab) (sub : Cfg → Out) (fuel : Nat) (pc : List BE) (ops : List Oper) (sl : Slots) (h : SHeap) (nx p : Nat) : RR :=
 if oneLine ops p then fL (masks ops []) fun ms => (match regGo T sub ops ms fuel (ops.take p) 0 pc sl h nx [] none with
  | .leaves ls => if allOk T ms ls then (if noPj ls then .leaves ls else .fail 224) else .fail 221
  | r => r) else .fail 222
def pairsAt (ops : Array Oper) (ms : List Nat) (oi : Oper) (i : Nat) : List Oper → Nat → Bool
 | [], _ => true
 | oj :: l, j => if bitOf ((nth ms j).getD 0) i then pairsAt ops ms oi i l (j + 1) else (if Oper.apart ops oi oj then pairsAt ops ms oi i l (j + 1) else false)
def pairsOk (ops : Array Oper) (ms : List Nat) : List Oper → Nat → Bool
 | [], _ => true
 | oi :: l, i => if pairsAt ops ms oi i l (i + 1) then pairsOk ops ms l (i + 1) else false
def edgesAt (i : Nat) : List Edge → Bool
 | [] => true
 | e :: l => if bindsA e then (if Nat.blt e.on i then edgesAt i l else false) else edgesAt i l
def edgesOk : List Oper → Nat → Bool
 | [], _ => true
 | o :: l, i => if edgesAt i o.after.toList then edgesOk l (i + 1) else false
def plainOp (o : Oper) : Bool :=
 match o.op with
 | .defer _ => false
 | .select _ _ => false
 | _ => true
def allPlain : List Oper → Bool
 | [] => true
 | o :: l => if plainOp o then allPlain l else false
def slotsOk (ops : Array Oper) : Bool :=
 if edgesOk ops.toList 0 then (if allPlain ops.toList then fL (masks ops.toList []) fun ms => pairsOk ops ms ops.toList 0 else false) else false
def codeOk : Code → Bool
 | .region _ ops true => slotsOk ops
 | .seq a b => if codeOk a then codeOk b else false
 | .cond _ a b => if codeOk a then codeOk b else false
 | .block _ b => codeOk b
 | .loop b => codeOk b
 | .rangeFunc _ _ a b => if codeOk a then codeOk b else false
 | .scope b => codeOk b
 | _ => true
def exitS (id : Nat) : List SItem → Option (List SItem)
 | [] => none
 | .inBlock i :: k => if Nat.beq i id then some k else exitS id k
 | _ :: k => exitS id k
def gotoS (l : Nat) : List SItem → Option (List SItem)
 | [] => none
 | .inScope body :: k => (match findLabel body l with
  | some rest => some (.code rest :: .inScope body :: k)
  | none => gotoS l k)
 | _ :: k => gotoS l k
def rangeS : Nat → Nat → List Nat
 | 0, _ => []
 | n + 1, i => i :: rangeS n (i + 1)
def finishS (f : SFrame) (v : SV) : Option SFrame :=
 match f.todo with
 | .inRegion ops (i :: rest) :: k => (match nth ops.toList i with
  | some o => some { f with tmps := putD f.tmps o.dst v, todo := .inRegion ops rest :: k }
  | none => none)
 | .inRange l :: k => some { f with todo := .endRange l :: k }
 | _ => none
def doneS (C : Cfg) (v : SV) : Res :=
 match C.top.md.dfd with
 | true => .fail 302
 | false => (match panV v with
  | none => .done v
  | some _ => .fail 301)
def giveBack (C : Cfg) (h : SHeap) (v : SV) : Res :=
 match C.rest with
 | [] => doneS C v
 | f :: fs => match finishS f v with
  | some f' => .next { C with top := f', rest := fs, heap := h }
  | none => .fail 300
def resultS (T : Tab) (h : SHeap) (sl : Slots) : List ResultVar → Option (List SV)
 | [] => some []
 | .tmp t :: l => (match resultS T h sl l with
  | some vs => some ((get2 sl t).getD (.tup []) :: vs)
  | none => none)
 | .cell a t :: l => (match (get2 sl a).getD (.tup []), resultS T h sl l with
  | .ptr n off, some vs => (match loadAt T h 0 t n off with
   | .val v _ _ => some (v :: vs)
   | _ => none)
  | _, _ => none)
def oneOf : List SV → SV
 | [v] => v
 | vs => .tup vs
def jst : Option Code → LoopState
 | none => .ready
 | some _ => .done
def jb : Option Code → Bool
 | none => true
 | some _ => false
def leaveS (C : Cfg) (jump : Option Code) : Res :=
 match C.top.round with
 | none => (match jump with
  | none => .next { C with top := { C.top with md := C.top.md.to .ret } }
  | some .ret => .next { C with top := { C.top with md := C.top.md.to .ret } }
  | _ => .fail 310)
 | some l => (match lk C.heap l, C.top.md.dfd with
  | some (.loop _ _ fn tmps ps as body d), false => (match C.rest with
   | [] => .fail 312
   | _ :: _ => giveBack C (up C.heap l (.loop (jst jump) jump fn tmps ps as body d)) (.bool (.lit (jb jump))))
  | _, _ => .fail 311)
def enterS (T : Tab) (C : Cfg) (f : FuncId) (args : List SV) : Res :=
 match T.fn.get f with
 | some fn => (match fn.body with
  | some c => .next { C with top := frameOf f fn c args, rest := C.top :: C.rest }
  | none => .fail 320)
 | none => .fail (10000 + f)
def setParams (sl : Slots) : List Tmp → List SV → Option Slots
 | [], [] => some sl
 | p :: ps, v :: vs => setParams (put2 sl p v) ps vs
 | _, _ => none
def valTo (C : Cfg) (ops : Array Oper) (rest : List Nat) (k : List SItem) (dst : Option Tmp) (v : SV) (h : SHeap) (nx : Nat) : Res :=
 .next { C with top := { C.top with tmps := putD C.top.tmps dst v, todo := .inRegion ops rest :: k }, heap := h, next := nx }
def enterR (T : Tab) (C : Cfg) (ops : Array Oper) (rest : List Nat) (k : List SItem) (dst : Option Tmp) (f : FuncId) (args : List SV) : Res :=
 match T.fn.get f with
 | some fn => (match fn.body with
  | some c => (match findO f args T.orac.l with
   | some r => (match dec C.pc r.c with
    | some true => valTo C ops rest k dst r.yes C.heap C.next
    | some false => valTo C ops rest k dst r.no C.heap C.next
    | none => .split (atom C.pc r.c))
   | none => (match findX T.orac C.pc C.heap C.next f args with
    | .split b => .split b
    | .use u => (match panV u.val with
     | none => .many [{ C with top := { C.top with tmps := putD C.top.tmps dst u.val, todo := .inRegion ops rest :: k }, heap := u.heap, next := u.next, pc := u.post ++ C.pc }]
     | some v => .many [{ C with top := { C.top with md := C.top.md.to (.pan v false) }, heap := u.heap, next := u.next, pc := u.post ++ C.pc }])
    | .no => .next { C with top := frameOf f fn c args, rest := C.top :: C.rest }))
  | none => .fail 320)
 | none => .fail (10000 + f)
def roundR (C : Cfg) (l : Nat) (args : List SV) : Res :=
 match lk C.heap l with
 | some (.loop _ _ fn tmps ps as body _) => (match setParams tmps ps args with
  | some tmps' => .next { C with top := { fn := fn, tmps := tmps', todo := [.code as, .beginRound, .code body], defers := [], md := ⟨.run, false, []⟩, round := some l }, rest := C.top :: C.rest }
  | none => .fail 332)
 | _ => .fail 333
def panR (C : Cfg) (x : Operand) : Res :=
 match ev C.top.tmps x with
 | .iface t v => .next { C with top := { C.top with md := C.top.md.to (.pan (.iface t v) false) } }
 | _ => .fail 370
def defR (C : Cfg) (ops : Array Oper) (rest : List Nat) (k : List SItem) (dst : Option Tmp) (c : Call) : Res :=
 match c.callee with
 | .value f => (match ev C.top.tmps f with
  | .func (.func g) first captured => (match C.top.round, C.top.defers with
   | none, [] => .next { C with top := { C.top with tmps := putD C.top.tmps dst (.tup []), todo := .inRegion ops rest :: k, md := ⟨C.top.md.st, C.top.md.dfd, (g, (first ++ c.args.toList.map (ev C.top.tmps), captured)) :: C.top.md.dcs⟩ } }
   | _, _ => .fail 371)
  | _ => .fail 372)
 | _ => .fail 373
def recR (C : Cfg) (ops : Array Oper) (rest : List Nat) (k : List SItem) (dst : Option Tmp) : Res :=
 match C.top.md.dfd, C.top.round, C.rest with
 | true, none, f :: fs => (match f.md.st with
  | .ret => valTo C ops rest k dst (.const .nilIface) C.heap C.next
  | .pan v false => .next { C with top := { C.top with tmps := putD C.top.tmps dst v, todo := .inRegion ops rest :: k }, rest := { f with md := f.md.to (.pan v true) } :: fs }
  | _ => .fail 374)
 | _, _, _ => .fail 375
def isRec (c : Call) : Bool :=
 match c.callee with
 | .builtin .recover => true
 | _ => false
def runR0 (T : Tab) (C : Cfg) (ops : Array Oper) (rest : List Nat) (k : List SItem) (o : Oper) : Res :=
 match symOp T C.pc C.heap C.next C.top.tmps o with
 | .val v h nx => valTo C ops rest k o.dst v h nx
 | .enter f args => enterR T C ops rest k o.dst f args
 | .round l args => roundR C l args
 | .split c => .split c
 | .fail n => .fail n
def runR (T : Tab) (C : Cfg) (ops : Array Oper) (rest : List Nat) (k : List SItem) (o : Oper) : Res :=
 match o.op with
 | .panic x => panR C x
 | .defer c => defR C ops rest k o.dst c
 | .call c => if isRec c then recR C ops rest k o.dst else runR0 T C ops rest k o
 | _ => runR0 T C ops rest k o
def wantR (T : Tab) (C : Cfg) (ops : Array Oper) (rest : List Nat) (k : List SItem) (o : Oper) : Res :=
 match wantedS C.pc ops.toList C.top.tmps o with
 | .fail => .fail 331
 | .split c => .split c
 | .skip => valTo C ops rest k o.dst (.tup []) C.heap C.next
 | .run => runR T C ops rest k o
def stepRegion (T : Tab) (C : Cfg) (ops : Array Oper) (i : Nat) (rest : List Nat) (k : List SItem) : Res :=
 match nth ops.toList i with
 | none => .fail 330
 | some o => wantR T C ops rest k o
def stepRange (T : Tab) (C : Cfg) (f : Operand) (params : Array Tmp) (assign body : Code) (k : List SItem) : Res :=
 match ev C.top.tmps f with
 | .func (.func g) first captured =>
  (match C.top.round with
  | none =>
   let h : SHeap := (C.next + 1, .loop .ready none C.top.fn C.top.tmps params.toList assign body C.next) :: (C.next, .defd true) :: C.heap
   enterS T { C with top := { C.top with todo := .inRange (C.next + 1) :: k, defers := C.next :: C.top.defers }, heap := h, next := C.next + 2 } g (first ++ [.func (.yield (C.next + 1)) [] []] ++ captured)
  | some l => (match lk C.heap l with
   | some (.loop _ _ _ _ _ _ _ d) =>
    let h : SHeap := (C.next, .loop .ready none C.top.fn C.top.tmps params.toList assign body d) :: C.heap
    enterS T { C with top := { C.top with todo := .inRange C.next :: k }, heap := h, next := C.next + 1 } g (first ++ [.func (.yield C.next) [] []] ++ captured)
   | _ => .fail 340))
 | _ => .fail 341
def stX {V : Type} (ap : Eff → Nat → Option V → Option V) : List Eff → (Nat → Bool) → Nat → Nat → Option V → Option V
 | [], _, _, _, v => v
 | _ :: _, _, 0, _, v => v
 | e :: es, D, m + 1, x, v => stX ap es (fun i => D (i + 1)) m x (if D 0 then ap e x v else v)
def apH (e : Eff) (n : Nat) (v : Option SObj) : Option SObj :=
 match lk e.made n with
 | some o => some o
 | none => match lk e.writes n with
  | some o => some o
  | none => if memN n e.gone then none else v
def madeP (ahead : Bool) (bj : Nat) : List Eff → Nat → List Nat
 | [], _ => []
 | a :: l, i => (match bitOf bj i, ahead with
  | true, true => dom a.made ++ madeP ahead bj l (Nat.succ i)
  | false, false => dom a.made ++ madeP ahead bj l (Nat.succ i)
  | _, _ => madeP ahead bj l (Nat.succ i))
def pickN (f : Nat → Option SObj) (no : List Nat) : List Nat → SHeap
 | [] => []
 | n :: l => if memN n no then pickN f no l else (match f n with
  | some o => (n, o) :: pickN f no l
  | none => pickN f no l)
def finP (ms : List Nat) (q : PJ) (es : List Eff) (h : SHeap) : SHeap :=
 fL (madeP false ((nth ms q.j).getD 0) es 0) fun no => pickN (fun x => apH q.e x (stX apH es (fun i => bitOf ((nth ms q.j).getD 0) i) es.length x (lk h x))) no (dom h ++ (madeP true ((nth ms q.j).getD 0) es 0 ++ dom q.e.made))
def goOn (C : Cfg) (k : List SItem) (r : RLeaf) : Cfg := { C with top := { C.top with tmps := r.sl, todo := k }, heap := r.heap, next := r.next, pc := r.pc }
def todo (C : Cfg) (k : List SItem) : Res := .next { C with top := { C.top with todo := k } }
def callDef (T : Tab) (C : Cfg) (g : FuncId) (args : List SV) (ds : List (Nat × (List SV × List SV))) : Res :=
 match T.fn.get g with
 | some fn => (match fn.body with
  | some c => .next { C with top := { frameOf g fn c args with md := ⟨.run, true, []⟩ }, rest := { C.top with md := ⟨C.top.md.st, C.top.md.dfd, ds⟩ } :: C.rest }
  | none => .fail 353)
 | none => .fail (10000 + g)
def backD (C : Cfg) : Res :=
 match C.rest with
 | [] => .fail 354
 | f :: fs => (match f.md.st with
  | .pan _ true => (match f.round with
   | none => .next { C with top := { f with md := f.md.to .ret }, rest := fs }
   | some _ => .fail 357)
  | .pan v false => .next { C with top := { f with md := f.md.to (.pan v false) }, rest := fs }
  | .ret => .next { C with top := { f with md := f.md.to .ret }, rest := fs }
  | .run => .fail 358)
def takeD (C : Cfg) (n : Nat) (ds : List Nat) : Res :=
 match lk C.heap n with
 | some (.defd true) => .next { C with top := { C.top with defers := ds }, heap := up C.heap n (.defd false) }
 | _ => .fail 350
def retStep (T : Tab) (C : Cfg) : Res :=
 match C.top.defers with
 | n :: ds => takeD C n ds
 | [] => (match C.top.md.dcs with
  | (g, (a, c)) :: ds => callDef T C g (a ++ c) ds
  | [] => (match T.fn.get C.top.fn with
   | some fn => (match resultS T C.heap C.top.tmps fn.results.toList with
    | some vs => (match C.top.md.dfd with
     | true => backD C
     | false => giveBack C C.heap (oneOf vs))
    | none => .fail 351)
   | none => .fail 352))
def panStep (T : Tab) (C : Cfg) (v : SV) (rec : Bool) : Res :=
 match C.top.defers with
 | n :: ds => takeD C n ds
 | [] => (match C.top.md.dcs with
  | (g, (a, c)) :: ds => callDef T C g (a ++ c) ds
  | [] => (match T.fn.get C.top.fn, rec with
   | some _, false => (match C.rest with
    | [] => .done (mkPan v)
    | f :: fs => (match f.md.st with
     | .run => .next { C with top := { f with md := f.md.to (.pan v false) }, rest := fs }
     | _ => .fail 355))
   | _, _ => .fail 356))
def condStep (C : Cfg) (c : Operand) (a b : Code) (k : List SItem) : Res :=
 match ev C.top.tmps c with
 | .bool t => (match dec C.pc t with
  | some true => todo C (.code a :: k)
  | some false => todo C (.code b :: k)
  | none => .split (atom C.pc t))
 | _ => .fail 360
def exitStep (C : Cfg) (id : Nat) (k : List SItem) : Res :=
 match exitS id k with
 | some k' => todo C k'
 | none => leaveS C (some (.exit id))
def gotoStep (C : Cfg) (l : Nat) (k : List SItem) : Res :=
 match gotoS l k with
 | some k' => todo C k'
 | none => leaveS C (some (.goto l))
def drawPre (T : Tab) (sub : Cfg → Out) (fuel : Nat) (C : Cfg) (ops : Array Oper) (k : List SItem) (n p : Nat) : Res :=
 match regionPre T sub fuel C.pc ops.toList C.top.tmps C.heap C.next p with
 | .leaves ls => .many (ls.map (goOn C (.inRegion ops (rangeS (ops.toList.length - p) p) :: k)))
 | .fail _ => .fail n
def goP (C : Cfg) (k : List SItem) (ms : List Nat) (f : SFrame) (fs : List SFrame) (r : RLeaf) : Cfg :=
 match r.pj with
 | none => goOn C k r
 | some q => { top := { f with md := f.md.to (.pan q.v false) }, rest := fs, heap := finP ms q r.effs C.heap, next := r.next, pc := r.pc }
def canUp (T : Tab) (C : Cfg) : Option (SFrame × List SFrame) :=
 match T.fn.get C.top.fn with
 | some _ => (match C.top.defers, C.top.md.dcs, C.rest with
  | [], [], f :: fs => (match f.md.st with
   | .run => some (f, fs)
   | _ => none)
  | _, _, _ => none)
 | none => none
def drawUp (T : Tab) (C : Cfg) (ops : Array Oper) (k : List SItem) (ls : List RLeaf) : Res :=
 if noPj ls then .many (ls.map (goOn C k)) else (match canUp T C with
  | some p => fL (masks ops.toList []) fun ms => .many (ls.map (goP C k ms p.1 p.2))
  | none => .fail 225)
def drawStep (T : Tab) (sub : Cfg → Out) (fuel : Nat) (C : Cfg) (ops : Array Oper) (k : List SItem) : Res :=
 match region T sub fuel C.pc ops.toList C.top.tmps C.heap C.next with
 | .leaves ls => drawUp T C ops k ls
 | .fail n => fnat (cutAt T sub fuel C.pc ops.toList C.top.tmps C.heap C.next ops.toList.length 0) fun p => drawPre T sub fuel C ops k n p
def codeStep (T : Tab) (sub : Cfg → Out) (fuel : Nat) (C : Cfg) (c : Code) (k : List SItem) : Res :=
 match c with
 | .skip => todo C k
 | .label _ => todo C k
 | .seq a b => todo C (.code a :: .code b :: k)
 | .cond c a b => condStep C c a b k
 | .block id b => todo C (.code b :: .inBlock id :: k)
 | .loop b => todo C (.code b :: .inLoop b :: k)
 | .scope b => todo C (.code b :: .inScope b :: k)
 | .exit id => exitStep C id k
 | .goto l => gotoStep C l k
 | .ret => leaveS C (some .ret)
 | .rangeFunc f ps as b => stepRange T C f ps as b k
 | .region _ ops false => todo C (.inRegion ops (rangeS ops.toList.length 0) :: k)
 | .region _ ops true => drawStep T sub fuel C ops k
 | .refuse _ => .fail 361
def endRangeStep (C : Cfg) (l : Nat) (k : List SItem) : Res :=
 match lk C.heap l with
 | some (.loop st pend fn tmps ps as body d) => if Nat.beq (stLoop st) 1 then .fail 363 else
  .next { C with top := { C.top with todo := (match pend with | some c => [.code c] | none => []) ++ k }, heap := up C.heap l (.loop .exhausted pend fn tmps ps as body d) }
 | _ => .fail 364
def beginStep (C : Cfg) (k : List SItem) : Res :=
 match C.top.round with
 | some l => (match lk C.heap l with
  | some (.loop .ready pend fn tmps ps as body d) => .next { C with top := { C.top with todo := k }, heap := up C.heap l (.loop .busy pend fn tmps ps as body d) }
  | _ => .fail 365)
 | none => .fail 366
def itemStep (T : Tab) (sub : Cfg → Out) (fuel : Nat) (C : Cfg) (i : SItem) (k : List SItem) : Res :=
 match i with
 | .code c => codeStep T sub fuel C c k
 | .inBlock _ => todo C k
 | .inScope _ => todo C k
 | .inLoop b => todo C (.code b :: .inLoop b :: k)
 | .inRegion _ [] => todo C k
 | .inRegion ops (i :: rest) => stepRegion T C ops i rest k
 | .inRange _ => .fail 362
 | .endRange l => endRangeStep C l k
 | .beginRound => beginStep C k
def stepS (T : Tab) (sub : Cfg → Out) (fuel : Nat) (C : Cfg) : Res :=
 match C.top.md.st with
 | .pan v r => panStep T C v r
 | .ret => retStep T C
 | .run => match C.top.todo with
  | [] => leaveS C none
  | i :: k => itemStep T sub fuel C i k

def overCfgs (k : Cfg → Out) : List Cfg → Out
 | [] => .leaves []
 | C :: l => Out.app (k C) (overCfgs k l)
def runS (T : Tab) : Nat → Cfg → Out
 | 0, C => .fail 401 C.top.fn
 | n + 1, C => match stepS T (runS T n) n C with
  | .next C' => runS T n C'
  | .many l => overCfgs (runS T n) l
  | .split c => fBE c fun c => Out.app (runS T n { C with pc := c :: C.pc }) (runS T n { C with pc := .not c :: C.pc })
  | .done v => .leaves [{ pc := C.pc, val := v, heap := C.heap, next := C.next }]
  | .fail m => .fail m C.top.fn
def callS (T : Tab) (fuel : Nat) (f : FuncId) (args : List SV) (pc : List BE) : Out :=
 match T.fn.get f with
 | some fn => (match fn.body with
  | some c => runS T fuel { top := frameOf f fn c args, rest := [], heap := [], next := 0, pc := pc }
  | none => .fail 402 f)
 | none => .fail 403 f
end
end Go.Proofs.Ythenenacmiiphaa.Sx
