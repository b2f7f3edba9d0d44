/- A reckoner of Go's small steps over letters: one operation. No condition. -/
import Derived.Test.YtckmipofdejgoaaSx1
set_option linter.unusedVariables false
set_option linter.unusedSimpArgs false
namespace Go.Proofs.Ytckmipofdejgoaa.Sx
open Go
noncomputable section

inductive BR where
  | ok (v : SV)
  | split (c : BE)
  | fail (n : Nat)
inductive OR where
  | val (v : SV) (h : SHeap) (nx : Nat)
  | enter (f : FuncId) (args : List SV)
  | round (n : Nat) (args : List SV)
  | split (c : BE)
  | fail (n : Nat)

def ev (sl : Slots) : Operand → SV
  | .tmp t => (get2 sl t).getD (.tup [])
  | .const v => ofConst v
  | .global g => .const (.pointer (some ⟨g, 0, none⟩))
  | .func f => .func (.func f) [] []

def eqCells : List CK → List SV → List SV → Option BE
  | [], [], [] => some (.lit true)
  | .int k :: ks, .int j a :: l, .int i b :: m => if keq k j then (if keq k i then (match eqCells ks l m with
      | some r => some (mkAnd (if a.beq b then .lit true else mkEq a b) r)
      | none => none) else none) else none
  | .bool :: ks, .bool a :: l, .bool b :: m => (match eqCells ks l m with
      | some r => some (mkAnd (if a.beq b then .lit true else mkIff a b) r)
      | none => none)
  | _, _, _ => none
def intCmp (op : BinOp) (a b : IE) : Option BE :=
  match op with
  | .eql => some (mkEq a b)
  | .neq => some (mkNot (mkEq a b))
  | .lss => some (mkNot (mkLe b a))
  | .leq => some (mkLe a b)
  | .gtr => some (mkNot (mkLe a b))
  | .geq => some (mkLe b a)
  | _ => none
def isShift : BinOp → Bool
  | .shl => true
  | .shr => true
  | _ => false
def symInt (pc : List BE) (op : BinOp) (k : IntKind) (a b : IE) : BR :=
  match op with
  | .add => .ok (.int k (mkAdd k pc a b))
  | .sub => .ok (.int k (mkSub k pc a b))
  | .mul => .ok (.int k (mkMul k pc a b))
  | .and => .ok (.int k (mkBin .and k a b))
  | .or => .ok (.int k (mkBin .or k a b))
  | .xor => .ok (.int k (mkBin .xor k a b))
  | .andNot => .ok (.int k (mkBin .andNot k a b))
  | .quo => match dec pc (mkEq b (.lit 0)) with
    | some false => .ok (.int k (mkBin .quo k a b))
    | some true => .fail 11
    | none => .split (mkEq b (.lit 0))
  | .rem => match dec pc (mkEq b (.lit 0)) with
    | some false => .ok (.int k (mkBin .rem k a b))
    | some true => .fail 12
    | none => .split (mkEq b (.lit 0))
  | op => match intCmp op a b with
    | some c => .ok (.bool c)
    | none => .fail 13
/- strings -/
def inByte (pc : List BE) (e : IE) : Bool :=
  match rng pc e with
  | (some a, some b) => if ileb 0 a then ileb b 255 else false
  | _ => false
def allByte (pc : List BE) : List IE → Bool
  | [] => true
  | e :: l => if inByte pc e then allByte pc l else false
def eqBytes : List IE → List IE → BE
  | [], [] => .lit true
  | a :: l, b :: m => mkAnd (if a.beq b then .lit true else mkEq a b) (eqBytes l m)
  | _, _ => .lit false
def lessBytes : List IE → List IE → Option Bool
  | _, [] => some false
  | [], _ :: _ => some true
  | .lit a :: l, .lit b :: m => if ileb b a then (if ileb a b then lessBytes l m else some false) else some true
  | _, _ => none
def litEq : List IE → List IE → Bool
  | [], [] => true
  | .lit a :: l, .lit b :: m => if ieqb a b then litEq l m else false
  | _, _ => false
def symStr (pc : List BE) (op : BinOp) (xs ys : List IE) : BR :=
  match op with
  | .add => if Nat.ble (xs.length + ys.length) 1000000 then .ok (.str (xs ++ ys)) else .fail 22
  | op => if allByte pc xs then (if allByte pc ys then (match op with
    | .eql => .ok (.bool (if Nat.beq xs.length ys.length then eqBytes xs ys else .lit false))
    | .neq => .ok (.bool (mkNot (if Nat.beq xs.length ys.length then eqBytes xs ys else .lit false)))
    | .lss => (match lessBytes xs ys with
      | some b => .ok (.bool (.lit b))
      | none => .fail 23)
    | .geq => (match lessBytes xs ys with
      | some b => .ok (.bool (.lit (!b)))
      | none => .fail 23)
    | _ => .fail 24) else .fail 25) else .fail 25
/-- Whether one is nil, where the other one is. -/
def eqNil : ST → SV → SV → Option Bool
  | .ptr, .const (.pointer none), .const (.pointer none) => some true
  | .ptr, .ptr _ _, .const (.pointer none) => some false
  | .ptr, .const (.pointer none), .ptr _ _ => some false
  | .slice _, .const (.slice none 0 0), .const (.slice none 0 0) => some true
  | .slice _, .slice _ _ _ _, .const (.slice none 0 0) => some false
  | .slice _, .sl _ _ _ _ _, .const (.slice none 0 0) => some false
  | .func, .const .nilFunc, .const .nilFunc => some true
  | .func, .func _ _ _, .const .nilFunc => some false
  | .func, .const .nilFunc, .func _ _ _ => some false
  | .iface, .iface _ _, .const .nilIface => some false
  | .map _ _, .const (.map none), .const (.map none) => some true
  | _, _, _ => none
def symNil (T : Tab) (op : BinOp) (xt : TypeId) (x y : SV) : BR :=
  match T.ty.get xt with
  | some ti => (match eqNil ti.und x y with
    | some b => (match op with
      | .eql => .ok (.bool (.lit b))
      | .neq => .ok (.bool (.lit (!b)))
      | _ => .fail 26)
    | none => .fail 27)
  | none => .fail 28
def symBin (T : Tab) (pc : List BE) (op : BinOp) (xt : TypeId) (x y : SV) : BR :=
  match x, y with
  | .int k a, .int j b =>
    if isShift op then (match dec pc (mkLe (.lit 0) b) with
      | some true => .ok (.int k (mkBin op k a b))
      | some false => .fail 14
      | none => .split (mkLe (.lit 0) b))
    else if keq k j then symInt pc op k a b else .fail 15
  | .bool a, .bool b => (match T.ty.get xt with
    | some ti => (match ti.und, op with
      | .bool, .eql => .ok (.bool (mkIff a b))
      | .bool, .neq => .ok (.bool (mkNot (mkIff a b)))
      | _, _ => .fail 16)
    | none => .fail 16)
  | .agg xs, .agg ys => (match lk T.eqs xt with
      | some ks => (match eqCells ks xs ys with
          | some c => (match op with
            | .eql => .ok (.bool c)
            | .neq => .ok (.bool (mkNot c))
            | _ => .fail 17)
          | none => .fail 18)
      | none => .fail 19)
  | .str xs, .str ys => symStr pc op xs ys
  | x, y => symNil T op xt x y

/-- The place of a symbolic index among so many. -/
def place (pc : List BE) (e : IE) : Nat → Nat → OR
  | 0, _ => .fail 30
  | n + 1, j => match dec pc (mkEq e (.lit (j : Nat))) with
    | some true => .val (.int .i64 (.lit (j : Nat))) [] j
    | none => .split (mkEq e (.lit (j : Nat)))
    | some false => place pc e n (j + 1)
def idx (pc : List BE) (e : IE) (len : Nat) : OR :=
  match e with
  | .lit (.ofNat j) => if Nat.blt j len then .val (.tup []) [] j else .fail 31
  | .lit _ => .fail 32
  | e => if Nat.ble len 24 then place pc e len 0 else .fail 33

def allOne : List SV → Bool
  | [] => true
  | v :: l => if v.one then allOne l else false
/-- The cells of a new variable. -/
def newCells (h : SHeap) (nx : Nat) (cs : List SV) (t : TypeId) : OR := .val (.ptr nx 0) ((nx, .cells cs t) :: h) (nx + 1)
def SObj.cs : SObj → Option (List SV)
  | .cells cs _ => some cs
  | .row cs _ _ _ => some cs
  | _ => none
def SObj.put : SObj → List SV → SObj
  | .cells _ t, cs => .cells cs t
  | .row _ t cn sz, cs => .row cs t cn sz
  | o, _ => o
def ocs (h : SHeap) (n : Nat) : Option (List SV) :=
  match lk h n with
  | some o => o.cs
  | none => none
def loadAt (T : Tab) (h : SHeap) (nx : Nat) (t : TypeId) (n off : Nat) : OR :=
  match T.ty.get t, ocs h n with
  | some ti, some cs =>
    if ti.agg then (if Nat.ble (off + ti.size) cs.length then .val (.agg ((cs.drop off).take ti.size)) h nx else .fail 40)
    else (match nth cs off with
      | some v => .val v h nx
      | none => .fail 41)
  | _, _ => .fail 42
def puts (cs : List SV) (off : Nat) : List SV → List SV
  | [] => cs
  | v :: l => puts (put cs off v) (off + 1) l
def storeAt (T : Tab) (h : SHeap) (nx : Nat) (t : TypeId) (n off : Nat) (x : SV) : OR :=
  match T.ty.get t, lk h n, x.cells with
  | some ti, some o, some vs => (match o.cs with
    | some cs => if Nat.beq vs.length ti.size then (if Nat.ble (off + vs.length) cs.length then (if allOne vs then .val (.tup []) (up h n (o.put (puts cs off vs))) nx else .fail 45) else .fail 46) else .fail 47
    | none => .fail 44)
  | _, _, _ => .fail 48
def colAt (i : IE) : Col → SV
  | .int k n => .int k (.app k n i)
  | .bool n => .bool (.app n i)
  | .other n => .app n i
def cols (i : IE) : List Col → List SV
  | [] => []
  | c :: l => colAt i c :: cols i l
/-- An element of what came in. -/
def loadRom (T : Tab) (pc : List BE) (h : SHeap) (nx : Nat) (t : TypeId) (r : Nat) (i : IE) (c : Nat) : OR :=
  match T.ty.get t, lk T.orac.rom r with
  | some ti, some (esz, cl) =>
    if Nat.beq esz cl.length then (match dec pc (mkLe (.lit 0) i) with
    | some true => (match dec pc (.le (.rlen r) i) with
      | some false => if ti.agg then (if Nat.ble (c + ti.size) esz then .val (.agg ((cols i cl).drop c |>.take ti.size)) h nx else .fail 36)
        else (match nth (cols i cl) c with
        | some v => .val v h nx
        | none => .fail 37)
      | _ => .fail 35)
    | _ => .fail 38) else .fail 34
  | _, _ => .fail 39
def fillS (places : Nat → Option (Nat × Nat)) (cells : List SV) : List (Nat × SV) → Option (List SV)
  | [] => some cells
  | (i, v) :: rest => match places i, v.cells with
    | some (off, size), some vs => if Nat.beq vs.length size then (if Nat.ble (off + vs.length) cells.length then fillS places (puts cells off vs) rest else none) else none
    | _, _ => none
def structPlaces (T : Tab) (fs : List (Nat × TypeId)) (i : Nat) : Option (Nat × Nat) :=
  match nth fs i with
  | some f => (match T.ty.get f.2 with
    | some ti => some (f.1, ti.size)
    | none => none)
  | none => none
def allTy (T : Tab) : List (Nat × TypeId) → Bool
  | [] => true
  | f :: fs => (match T.ty.get f.2 with
    | some _ => allTy T fs
    | none => false)
def reps (z : List SV) : Nat → List SV
  | 0 => []
  | n + 1 => z ++ reps z n
def symBuild (T : Tab) (h : SHeap) (nx : Nat) (t : TypeId) (parts : List (Nat × SV)) : OR :=
  match T.ty.get t with
  | some ti => (match ti.und with
    | .struct fs => if allTy T fs then (match fillS (structPlaces T fs) ti.zero parts with
      | some cs => .val (.agg cs) h nx
      | none => .fail 50) else .fail 49
    | .arr _ e => (match T.ty.get e with
      | some te => (match fillS (fun i => some (i * te.size, te.size)) ti.zero parts with
        | some cs => .val (.agg cs) h nx
        | none => .fail 51)
      | none => .fail 52)
    | _ => .fail 53)
  | none => .fail 54
def symBuildSlice (T : Tab) (h : SHeap) (nx : Nat) (t : TypeId) (len : Nat) (parts : List (Nat × SV)) : OR :=
  match T.ty.get t with
  | some ti => (match ti.und with
    | .slice e => (match T.ty.get e with
      | some te => if Nat.ble (len * te.size) 4096 then (match fillS (fun i => some (i * te.size, te.size)) (reps te.zero len) parts with
        | some cs => .val (.slice nx 0 len len) ((nx, .cells cs e) :: h) (nx + 1)
        | none => .fail 55) else .fail 56
      | none => .fail 57)
    | _ => .fail 58)
  | none => .fail 59
def symPart (T : Tab) (h : SHeap) (nx : Nat) (t : TypeId) (cs : List SV) (off : Nat) : OR :=
  match T.ty.get t with
  | some ti => if ti.agg then .val (.agg ((cs.drop off).take ti.size)) h nx else (match nth cs off with
      | some v => .val v h nx
      | none => .fail 60)
  | none => .fail 61
def symField (T : Tab) (h : SHeap) (nx : Nat) (s : TypeId) (x : SV) (i : Nat) : OR :=
  match T.ty.get s, x with
  | some ti, .agg cs => (match ti.und with
    | .struct fs => (match nth fs i with
      | some f => symPart T h nx f.2 cs f.1
      | none => .fail 62)
    | _ => .fail 63)
  | _, _ => .fail 64
def symFieldAddr (T : Tab) (h : SHeap) (nx : Nat) (s : TypeId) (x : SV) (i : Nat) : OR :=
  match T.ty.get s, x with
  | some ti, .ptr n off => (match ti.und with
    | .struct fs => (match nth fs i with
      | some f => (match T.ty.get f.2 with
        | some tf => if Nat.beq tf.size 0 then .fail 65 else .val (.ptr n (off + f.1)) h nx
        | none => .fail 66)
      | none => .fail 67)
    | _ => .fail 68)
  | some ti, .rptr r e c => (match ti.und with
    | .struct fs => (match nth fs i with
      | some f => (match T.ty.get f.2 with
        | some tf => if Nat.beq tf.size 0 then .fail 65 else .val (.rptr r e (c + f.1)) h nx
        | none => .fail 66)
      | none => .fail 67)
    | _ => .fail 68)
  | _, _ => .fail 69
def symIndexAddr (T : Tab) (pc : List BE) (h : SHeap) (nx : Nat) (t : TypeId) (x i : SV) : OR :=
  match T.ty.get t, x, i with
  | some ti, .ptr n off, .int _ e => (match ti.und with
    | .arr len el => (match T.ty.get el with
      | some te => (match idx pc e len with
        | .val _ _ j => .val (.ptr n (off + j * te.size)) h nx
        | .split c => .split c
        | _ => .fail 70)
      | none => .fail 71)
    | _ => .fail 72)
  | some ti, .slice n off len _, .int _ e => (match ti.und with
    | .slice el => (match T.ty.get el with
      | some te => (match idx pc e len with
        | .val _ _ j => .val (.ptr n (off + j * te.size)) h nx
        | .split c => .split c
        | _ => .fail 73)
      | none => .fail 74)
    | _ => .fail 75)
  | some ti, .sl n _ sz off len, .int _ e => (match ti.und with
    | .slice el => (match T.ty.get el with
      | some te => (match idx pc e len with
        | .val _ _ j => if Nat.beq te.size sz then .val (.ptr n (off * sz + j * sz)) h nx else .fail 81
        | .split c => .split c
        | _ => .fail 73)
      | none => .fail 74)
    | _ => .fail 75)
  | some ti, .rom r (.lit (.ofNat 0)) len, .int _ e => (match ti.und with
    | .slice el => (match T.ty.get el, lk T.orac.rom r with
      | some te, some (esz, _) => if Nat.beq te.size esz then (match dec pc (mkLe (.lit 0) e) with
        | some true => (match dec pc (mkLe len e) with
          | some false => (match dec pc (.le (.rlen r) e) with
            | some false => .val (.rptr r e 0) h nx
            | _ => .fail 81)
          | some true => .fail 82
          | none => .split (atom pc (mkLe len e)))
        | some false => .fail 83
        | none => .split (atom pc (mkLe (.lit 0) e))) else .fail 84
      | _, _ => .fail 74)
    | _ => .fail 75)
  | _, _, _ => .fail 76
def symIndex (T : Tab) (pc : List BE) (h : SHeap) (nx : Nat) (t : TypeId) (x i : SV) : OR :=
  match T.ty.get t, x, i with
  | some ti, .str bs, .int _ e => (match ti.und with
    | .str => (match idx pc e bs.length with
      | .val _ _ j => (match nth bs j with
        | some b => if inByte pc b then .val (.int .u8 b) h nx else .fail 85
        | none => .fail 86)
      | .split c => .split c
      | _ => .fail 87)
    | _ => .fail 88)
  | some ti, .agg cs, .int _ e => (match ti.und with
    | .arr len el => (match T.ty.get el with
      | some te => (match idx pc e len with
        | .val _ _ j => symPart T h nx el cs (j * te.size)
        | .split c => .split c
        | _ => .fail 77)
      | none => .fail 78)
    | _ => .fail 79)
  | _, _, _ => .fail 80
def symUn (op : UnOp) (pc : List BE) (x : SV) : Option SV :=
  match op, x with
  | .not, .bool b => some (.bool (mkNot b))
  | .neg, .int k e => some (.int k (mkSub k pc (.lit 0) e))
  | .xor, .int k e => some (.int k (mkBin .xor k (.lit (if k.signed then -1 else k.max)) e))
  | _, _ => none
def symConv (T : Tab) (pc : List BE) (src dst : TypeId) (x : SV) : Option SV :=
  match T.ty.get src, T.ty.get dst, x with
  | some _, some ti, .int _ e => (match ti.und with
    | .int k => some (.int k (mkConv k pc e))
    | _ => none)
  | _, _, _ => none
def symLen (T : Tab) (t : TypeId) (x : SV) : Option SV :=
  match T.ty.get t with
  | some ti => (match ti.und, x with
    | .arr n _, _ => some (.int .i64 (.lit (n : Nat)))
    | .slice _, .slice _ _ len _ => some (.int .i64 (.lit (len : Nat)))
    | .slice _, .sl _ _ _ _ len => some (.int .i64 (.lit (len : Nat)))
    | .str, .str bs => some (.int .i64 (.lit (bs.length : Nat)))
    | .slice _, .const (.slice none 0 0) => some (.int .i64 (.lit 0))
    | _, _ => none)
  | none => none
def symCap (T : Tab) (t : TypeId) (x : SV) : Option SV :=
  match T.ty.get t with
  | some ti => (match ti.und, x with
    | .arr n _, _ => some (.int .i64 (.lit (n : Nat)))
    | .slice _, .slice _ _ _ cap => some (.int .i64 (.lit (cap : Nat)))
    | .slice _, .const (.slice none 0 0) => some (.int .i64 (.lit 0))
    | _, _ => none)
  | none => none
/- the least, the greatest -/
def min2S (pc : List BE) : SV → SV → BR
  | .int k a, .int j b => if keq k j then (match dec pc (mkLe a b) with
    | some true => .ok (.int k a)
    | some false => .ok (.int k b)
    | none => .split (atom pc (mkLe a b))) else .fail 100
  | _, _ => .fail 101
def max2S (pc : List BE) : SV → SV → BR
  | .int k a, .int j b => if keq k j then (match dec pc (mkLe a b) with
    | some true => .ok (.int k b)
    | some false => .ok (.int k a)
    | none => .split (atom pc (mkLe a b))) else .fail 102
  | _, _ => .fail 103
def foldM2 (g : SV → SV → BR) (x : SV) : List SV → BR
  | [] => .ok x
  | y :: l => (match g x y with
    | .ok v => foldM2 g v l
    | r => r)
/- slices -/
def litN : SV → Option Nat
  | .int _ (.lit (.ofNat n)) => some n
  | _ => none
def litOr (d : Nat) (sl : Slots) : Option Operand → Option Nat
  | none => some d
  | some x => litN (ev sl x)
def three (sl : Slots) (len cap : Nat) (lo hi mx : Option Operand) : Option (Nat × Nat × Nat) :=
  match litOr cap sl mx, litOr len sl hi, litOr 0 sl lo with
  | some m, some u, some l => if Nat.ble m cap then (if Nat.ble u m then (if Nat.ble l u then (match mx, hi with
    | some _, none => none
    | _, _ => some (l, u, m)) else none) else none) else none
  | _, _, _ => none
def sliceOf (h : SHeap) (nx n off size : Nat) : Option (Nat × Nat × Nat) → OR
  | some (l, u, m) => .val (.slice n (if Nat.beq m l then off else off + l * size) (u - l) (m - l)) h nx
  | none => .fail 110
def opSlice (T : Tab) (h : SHeap) (nx : Nat) (sl : Slots) (t : TypeId) (x : Operand) (lo hi mx : Option Operand) : OR :=
  match T.ty.get t with
  | some ti => (match ti.und, ev sl x with
    | .str, .str bs => (match mx with
      | none => (match three sl bs.length bs.length lo hi none with
        | some (l, u, _) => .val (.str ((bs.take u).drop l)) h nx
        | none => .fail 111)
      | some _ => .fail 112)
    | .slice e, .slice n off len cap => (match T.ty.get e with
      | some te => sliceOf h nx n off te.size (three sl len cap lo hi mx)
      | none => .fail 113)
    | .arr len e, .ptr n off => (match T.ty.get e with
      | some te => sliceOf h nx n off te.size (three sl len len lo hi mx)
      | none => .fail 113)
    | .slice e, .const (.slice none 0 0) => (match T.ty.get e, three sl 0 0 lo hi mx with
      | some _, some _ => .val (.const (.slice none 0 0)) h nx
      | _, _ => .fail 114)
    | .slice e, .sl n cn sz off len => (match T.ty.get e, lk h n with
      | some te, some (.row cs _ dn zs) => if Nat.beq te.size sz then (if Nat.beq zs sz then (if Nat.beq dn cn then (match mx with
        | none => (match litOr len sl hi, litOr 0 sl lo with
          | some u, some l => if Nat.ble l u then (if Nat.ble ((off + u) * sz) cs.length then (if Nat.beq l 0 then .val (.sl n cn sz (off + l) (u - l)) h nx else if Nat.beq u l then .fail 115 else .val (.sl n cn sz (off + l) (u - l)) h nx) else .fail 116) else .fail 117
          | _, _ => .fail 118)
        | some y => (match litN (ev sl y) with
          | some m => if Nat.ble ((off + m) * sz) cs.length then sliceOf h nx n (off * sz) sz (three sl len m lo hi (some y)) else .fail 119
          | none => .fail 120)) else .fail 121) else .fail 121) else .fail 121
      | _, _ => .fail 122)
    | _, _ => .fail 123)
  | none => .fail 124
def opMakeSlice (T : Tab) (h : SHeap) (nx : Nat) (sl : Slots) (t : TypeId) (len cap : Operand) : OR :=
  match T.ty.get t with
  | some ti => (match ti.und with
    | .slice e => (match T.ty.get e, litN (ev sl len), litN (ev sl cap) with
      | some te, some l, some c => if Nat.ble l c then (if Nat.ble c 1000000 then (if Nat.ble te.bytes 1000000 then .val (.slice nx 0 l c) ((nx, .cells (reps te.zero c) e) :: h) (nx + 1) else .fail 130) else .fail 131) else .fail 132
      | _, _, _ => .fail 133)
    | _ => .fail 134)
  | none => .fail 135
def byteVals : List IE → List SV
  | [] => []
  | e :: l => .int .u8 e :: byteVals l
/-- What is appended, or copied. -/
def srcCells (pc : List BE) (h : SHeap) (size : Nat) : SV → Option (Nat × List SV)
  | .slice n off len _ => (match ocs h n with
    | some cs => if Nat.ble (off + len * size) cs.length then some (len, (cs.drop off).take (len * size)) else none
    | none => none)
  | .sl n _ sz off len => (match ocs h n with
    | some cs => if Nat.beq sz size then (if Nat.ble (off * sz + len * size) cs.length then some (len, (cs.drop (off * sz)).take (len * size)) else none) else none
    | none => none)
  | .const (.slice none 0 0) => some (0, [])
  | .str bs => if Nat.beq size 1 then (if allByte pc bs then some (bs.length, byteVals bs) else none) else none
  | _ => none
def rmH (n : Nat) : SHeap → SHeap
  | [] => []
  | (m, o) :: h => if Nat.beq m n then rmH n h else (m, o) :: rmH n h
def newRowS (h : SHeap) (nx : Nat) (cs : List SV) (e : TypeId) (sz len : Nat) : OR :=
  .val (.sl nx (nx + 1) sz 0 len) ((nx, .row cs e (nx + 1) sz) :: h) (nx + 2)
def appendTo (h : SHeap) (nx : Nat) (e : TypeId) (size k : Nat) (new : List SV) (s : SV) : OR :=
  match s with
  | .const (.slice none 0 0) => if Nat.beq k 0 then .val s h nx else newRowS h nx new e size k
  | .slice n off len cap => (match ocs h n, lk h n with
    | some cs, some o => if Nat.ble (len + k) cap then (if Nat.ble ((off + len * size) + new.length) cs.length then .val (.slice n off (len + k) cap) (up h n (o.put (puts cs (off + len * size) new))) nx else .fail 140)
      else (if Nat.ble (off + len * size) cs.length then (if Nat.ble len 1000000 then newRowS h nx ((cs.drop off).take (len * size) ++ new) e size (len + k) else .fail 141) else .fail 142)
    | _, _ => .fail 143)
  | .sl n cn sz off len => (match lk h n with
    | some (.row cs u dn zs) => if Nat.beq off 0 then (if Nat.beq zs sz then (if Nat.beq dn cn then (if Nat.beq sz size then (if Nat.ble (len * size) cs.length then (if Nat.ble len 1000000 then (if Nat.beq u e then
      (if Nat.beq k 0 then .val s h nx else if Nat.ble (len * size + new.length) cs.length then .val (.sl n cn sz 0 (len + k)) (up h n (.row (puts cs (len * size) new) u dn zs)) nx else newRowS (rmH n h) nx (cs.take (len * size) ++ new) e size (len + k)) else .fail 144) else .fail 144) else .fail 144) else .fail 145) else .fail 146) else .fail 146) else .fail 147
    | _ => .fail 148)
  | _ => .fail 149
def symAppend (T : Tab) (pc : List BE) (h : SHeap) (nx : Nat) (t u : TypeId) (s x : SV) : OR :=
  match T.ty.get t, T.ty.get u with
  | some ti, some tu => (match ti.und, tu.und with
    | .slice e, .slice _ => (match T.ty.get e with
      | some te => if Nat.ble te.bytes 1000000 then (match srcCells pc h te.size x with
        | some (k, new) => if Nat.ble k 1000000 then (if allOne new then (if Nat.beq te.size 0 then .fail 150 else if Nat.beq te.bytes 0 then .fail 150 else appendTo h nx e te.size k new s) else .fail 151) else .fail 152
        | none => .fail 153) else .fail 154
      | none => .fail 155)
    | .slice e, .str => (match T.ty.get e with
      | some te => if Nat.ble te.bytes 1000000 then (match srcCells pc h te.size x with
        | some (k, new) => if Nat.ble k 1000000 then (if allOne new then (if Nat.beq te.size 0 then .fail 150 else if Nat.beq te.bytes 0 then .fail 150 else appendTo h nx e te.size k new s) else .fail 151) else .fail 152
        | none => .fail 153) else .fail 154
      | none => .fail 155)
    | _, _ => .fail 156)
  | _, _ => .fail 157
def copyTo (h : SHeap) (nx n off k : Nat) (new : List SV) : OR :=
  match lk h n with
  | some o => (match o.cs with
    | some cs => if Nat.ble (off + new.length) cs.length then .val (.int .i64 (.lit (k : Nat))) (up h n (o.put (puts cs off new))) nx else .fail 160
    | none => .fail 161)
  | none => .fail 161
def symCopy (T : Tab) (pc : List BE) (h : SHeap) (nx : Nat) (t : TypeId) (s x : SV) : OR :=
  match T.ty.get t with
  | some ti => (match ti.und with
    | .slice e => (match T.ty.get e with
      | some te => (match srcCells pc h te.size x with
        | some (k, new) => if allOne new then (match s with
          | .slice n off len _ => copyTo h nx n off (Nat.min k len) (new.take (Nat.min k len * te.size))
          | .sl n _ sz off len => if Nat.beq sz te.size then copyTo h nx n (off * sz) (Nat.min k len) (new.take (Nat.min k len * te.size)) else .fail 162
          | .const (.slice none 0 0) => .val (.int .i64 (.lit 0)) h nx
          | _ => .fail 163) else .fail 164
        | none => .fail 165)
      | none => .fail 166)
    | _ => .fail 167)
  | none => .fail 168
def clearAt (h : SHeap) (nx n off : Nat) (vs : List SV) : OR :=
  match lk h n with
  | some o => (match o.cs with
    | some cs => if Nat.ble (off + vs.length) cs.length then (if allOne vs then .val (.tup []) (up h n (o.put (puts cs off vs))) nx else .fail 170) else .fail 171
    | none => .fail 172)
  | none => .fail 173
def symClear (T : Tab) (h : SHeap) (nx : Nat) (t : TypeId) (s : SV) : OR :=
  match T.ty.get t with
  | some ti => (match ti.und with
    | .slice e => (match T.ty.get e with
      | some te => (match s with
        | .slice n off len _ => if Nat.beq len 0 then .val (.tup []) h nx else clearAt h nx n off (reps te.zero len)
        | .sl n _ sz off len => if Nat.beq len 0 then .val (.tup []) h nx else clearAt h nx n (off * sz) (reps te.zero len)
        | .const (.slice none 0 0) => .val (.tup []) h nx
        | _ => .fail 174)
      | none => .fail 175)
    | _ => .fail 176)
  | none => .fail 177
/- interfaces -/
def plainST : ST → Bool
  | .iface => false
  | .other => false
  | _ => true
def opMakeI (T : Tab) (h : SHeap) (nx : Nat) (sl : Slots) (t : TypeId) (x : Operand) : OR :=
  match T.ty.get t with
  | some ti => if plainST ti.und then .val (.iface t (ev sl x)) h nx else .fail 170
  | none => .fail 171
def zeroS (ti : TI) : Option SV :=
  if ti.agg then some (.agg ti.zero) else (match ti.zero with
    | [v] => some v
    | _ => none)
def opAssert (T : Tab) (h : SHeap) (nx : Nat) (sl : Slots) (x : Operand) (a : TypeId) (ok : Bool) : OR :=
  match T.ty.get a with
  | some ti => if plainST ti.und then (match ev sl x with
    | .iface t v => if Nat.beq t a then .val (if ok then .tup [v, .bool (.lit true)] else v) h nx else (if ok then (match zeroS ti with
      | some z => .val (.tup [z, .bool (.lit false)]) h nx
      | none => .fail 172) else .fail 173)
    | .const .nilIface => if ok then (match zeroS ti with
      | some z => .val (.tup [z, .bool (.lit false)]) h nx
      | none => .fail 172) else .fail 173
    | _ => .fail 174) else .fail 175
  | none => .fail 176
/- strings and bytes -/
def bytesIn (pc : List BE) : List SV → Option (List IE)
  | [] => some []
  | .int .u8 e :: l => if inByte pc e then (match bytesIn pc l with
    | some es => some (e :: es)
    | none => none) else none
  | _ => none
def strOf (pc : List BE) (h : SHeap) (nx : Nat) (x : SV) : OR :=
  match x with
  | .const (.slice none 0 0) => .val (.str []) h nx
  | .str _ => .fail 180
  | x => (match srcCells pc h 1 x with
    | some (_, cs) => (match bytesIn pc cs with
      | some es => .val (.str es) h nx
      | none => .fail 181)
    | none => .fail 182)
def bytesS (pc : List BE) (h : SHeap) (nx : Nat) (e : TypeId) (bs : List IE) : OR :=
  if Nat.ble bs.length 1000000 then (if allByte pc bs then newRowS h nx (byteVals bs) e 1 bs.length else .fail 183) else .fail 184
def symCall (T : Tab) (pc : List BE) (h : SHeap) (nx : Nat) (sl : Slots) (c : Call) : OR :=
  match c.callee with
  | .builtin b => (match b, c.argTypes.toList, c.args.toList with
    | .len, t :: _, x :: _ => (match ev sl x with
      | .rom _ _ len => (match T.ty.get t with
        | some ti => (match ti.und with
          | .slice _ => (match dec pc (mkLe (.lit 0) len) with
            | some true => .val (.int .i64 len) h nx
            | _ => .fail 89)
          | _ => .fail 90)
        | none => .fail 90)
      | x => (match symLen T t x with
        | some v => .val v h nx
        | none => .fail 90))
    | .cap, t :: _, x :: _ => (match symCap T t (ev sl x) with
      | some v => .val v h nx
      | none => .fail 95)
    | .min, _, x :: l => (match foldM2 (min2S pc) (ev sl x) (l.map (ev sl)) with
      | .ok v => .val v h nx
      | .split c => .split c
      | .fail n => .fail n)
    | .max, _, x :: l => (match foldM2 (max2S pc) (ev sl x) (l.map (ev sl)) with
      | .ok v => .val v h nx
      | .split c => .split c
      | .fail n => .fail n)
    | .append, t :: u :: _, x :: y :: _ => symAppend T pc h nx t u (ev sl x) (ev sl y)
    | .copy, t :: _ :: _, x :: y :: _ => symCopy T pc h nx t (ev sl x) (ev sl y)
    | .clear, t :: _, x :: _ => symClear T h nx t (ev sl x)
    | _, _, _ => .fail 91)
  | .invoke _ _ => .fail 92
  | .value f => (match ev sl f with
    | .func (.func g) first captured => .enter g (first ++ c.args.toList.map (ev sl) ++ captured)
    | .func (.yield l) [] _ => .round l (c.args.toList.map (ev sl))
    | _ => .fail 93)
def opPick (pc : List BE) (h : SHeap) (nx : Nat) (sl : Slots) (c a b : Operand) : OR :=
  match ev sl c with
  | .bool t => (match dec pc t with
    | some true => .val (ev sl a) h nx
    | some false => .val (ev sl b) h nx
    | none => .split (atom pc t))
  | _ => .fail 1
def opAlloc (T : Tab) (h : SHeap) (nx : Nat) (t : TypeId) : OR :=
  match T.ty.get t with
  | some ti => newCells h nx ti.zero t
  | none => .fail 2
def opBox (h : SHeap) (nx : Nat) (sl : Slots) (t : TypeId) (x : Operand) : OR :=
  match (ev sl x).cells with
  | some cs => newCells h nx cs t
  | none => .fail 3
def opLoad (T : Tab) (pc : List BE) (h : SHeap) (nx : Nat) (sl : Slots) (t : TypeId) (a : Operand) : OR :=
  match ev sl a with
  | .ptr n off => loadAt T h nx t n off
  | .rptr r i c => loadRom T pc h nx t r i c
  | _ => .fail 4
def opStore (T : Tab) (h : SHeap) (nx : Nat) (sl : Slots) (t : TypeId) (a x : Operand) : OR :=
  match ev sl a with
  | .ptr n off => storeAt T h nx t n off (ev sl x)
  | _ => .fail 5
def opNil (h : SHeap) (nx : Nat) (sl : Slots) (x : Operand) : OR :=
  match ev sl x with
  | .ptr n off => .val (.ptr n off) h nx
  | .rptr r i c => .val (.rptr r i c) h nx
  | .func (.func f) a b => .val (.func (.func f) a b) h nx
  | _ => .fail 6
def opBin (T : Tab) (pc : List BE) (h : SHeap) (nx : Nat) (sl : Slots) (op : BinOp) (xt : TypeId) (x y : Operand) : OR :=
  match symBin T pc op xt (ev sl x) (ev sl y) with
  | .ok v => fSV v fun v => .val v h nx
  | .split c => .split (atom pc c)
  | .fail n => .fail n
def opUn (pc : List BE) (h : SHeap) (nx : Nat) (sl : Slots) (op : UnOp) (x : Operand) : OR :=
  match symUn op pc (ev sl x) with
  | some v => fSV v fun v => .val v h nx
  | none => .fail 7
/-- A row of bytes of a constant text: its run-time's mark; it goes on under a new name. -/
def convSame (h : SHeap) (nx : Nat) (x : SV) : OR :=
  match x with
  | .slice n off len cap => (match lk h n with
    | some (.cells cs u) => if Nat.beq off 0 then (if Nat.beq cap cs.length then (if Nat.ble cap 1000000 then newRowS (rmH n h) nx cs u 1 len else .fail 196) else .fail 196) else .fail 196
    | _ => .fail 196)
  | _ => .fail 196
def opConvI (T : Tab) (pc : List BE) (h : SHeap) (nx : Nat) (sl : Slots) (src dst : TypeId) (x : Operand) : OR :=
  match symConv T pc src dst (ev sl x) with
  | some v => fSV v fun v => .val v h nx
  | none => .fail 8
def opConv (T : Tab) (pc : List BE) (h : SHeap) (nx : Nat) (sl : Slots) (src dst : TypeId) (x : Operand) : OR :=
  match T.ty.get src, T.ty.get dst with
  | some ts, some td => (match ts.und, td.und with
    | .str, .str => (match ev sl x with
      | .str bs => .val (.str bs) h nx
      | _ => .fail 190)
    | .str, .slice e => (match T.ty.get e, ev sl x with
      | some te, .str bs => (match te.und with
        | .int .u8 => bytesS pc h nx e bs
        | _ => .fail 191)
      | _, _ => .fail 192)
    | .slice e, .str => (match T.ty.get e with
      | some te => (match te.und with
        | .int .u8 => strOf pc h nx (ev sl x)
        | _ => .fail 193)
      | none => .fail 194)
    | .slice e, .slice _ => if Nat.beq src dst then (match T.ty.get e with
      | some te => (match te.und with
        | .int .u8 => convSame h nx (ev sl x)
        | _ => .fail 197)
      | none => .fail 197) else .fail 197
    | _, _ => opConvI T pc h nx sl src dst x)
  | _, _ => .fail 195
def opExtract (h : SHeap) (nx : Nat) (sl : Slots) (t : Operand) (i : Nat) : OR :=
  match ev sl t with
  | .tup vs => (match nth vs i with
    | some v => .val v h nx
    | none => .fail 9)
  | _ => .fail 10
def opFunc (h : SHeap) (nx : Nat) (sl : Slots) (fn : Fn) (first captured : Array Operand) : OR :=
  match fn with
  | .yield _ => .fail 94
  | fn => .val (.func fn (first.toList.map (ev sl)) (captured.toList.map (ev sl))) h nx
def opBuild (T : Tab) (h : SHeap) (nx : Nat) (sl : Slots) (t : TypeId) (parts : Array (Nat × Operand)) : OR :=
  symBuild T h nx t (parts.toList.map fun p => (p.1, ev sl p.2))
def opBuildSlice (T : Tab) (h : SHeap) (nx : Nat) (sl : Slots) (t : TypeId) (len : Nat) (parts : Array (Nat × Operand)) : OR :=
  symBuildSlice T h nx t len (parts.toList.map fun p => (p.1, ev sl p.2))
def opMove (h : SHeap) (nx : Nat) (sl : Slots) (x : Operand) : OR := .val (ev sl x) h nx
def opFA (T : Tab) (h : SHeap) (nx : Nat) (sl : Slots) (s : TypeId) (x : Operand) (f : Nat) : OR := symFieldAddr T h nx s (ev sl x) f
def opF (T : Tab) (h : SHeap) (nx : Nat) (sl : Slots) (s : TypeId) (x : Operand) (f : Nat) : OR := symField T h nx s (ev sl x) f
def opIA (T : Tab) (pc : List BE) (h : SHeap) (nx : Nat) (sl : Slots) (t : TypeId) (x i : Operand) : OR := symIndexAddr T pc h nx t (ev sl x) (ev sl i)
def opI (T : Tab) (pc : List BE) (h : SHeap) (nx : Nat) (sl : Slots) (t : TypeId) (x i : Operand) : OR := symIndex T pc h nx t (ev sl x) (ev sl i)
def symOp (T : Tab) (pc : List BE) (h : SHeap) (nx : Nat) (sl : Slots) (o : Oper) : OR :=
  match o.op with
  | .move x => opMove h nx sl x
  | .assign x => opMove h nx sl x
  | .pick c a b => opPick pc h nx sl c a b
  | .alloc t => opAlloc T h nx t
  | .box t x => opBox h nx sl t x
  | .build t parts => opBuild T h nx sl t parts
  | .buildSlice t len parts => opBuildSlice T h nx sl t len parts
  | .load t a => opLoad T pc h nx sl t a
  | .store t a x => opStore T h nx sl t a x
  | .nilCheck x => opNil h nx sl x
  | .binOp op xt x y _ => opBin T pc h nx sl op xt x y
  | .unOp op _ x => opUn pc h nx sl op x
  | .convert src dst x => opConv T pc h nx sl src dst x
  | .makeFunc fn first captured => opFunc h nx sl fn first captured
  | .fieldAddr s x f => opFA T h nx sl s x f
  | .field s x f => opF T h nx sl s x f
  | .indexAddr t x i => opIA T pc h nx sl t x i
  | .index t x i => opI T pc h nx sl t x i
  | .extract t i => opExtract h nx sl t i
  | .call c => symCall T pc h nx sl c
  | .slice t x lo hi mx => opSlice T h nx sl t x lo hi mx
  | .makeSlice t l c => opMakeSlice T h nx sl t l c
  | .makeInterface t x => opMakeI T h nx sl t x
  | .typeAssert x _ a ok => opAssert T h nx sl x a ok
  | _ => .fail 99
end
end Go.Proofs.Ytckmipofdejgoaa.Sx
