/- A reckoner of Go's small steps over letters: one operation. No condition. -/
import Derived.Test.YtjgkaimgocnkmabSx1
set_option linter.unusedVariables false
set_option linter.unusedSimpArgs false
namespace Go.Proofs.Ytjgkaimgocnkmab.Sx
open Go
noncomputable section

inductive BR where
  | ok (v : SV)
  | split (c : BE)
  | fail (n : Nat)
inductive OR where
  | val (v : SV) (h : SHeap) (nx : Nat)
  | enter (f : FuncId) (args : List SV)
  | round (n : Nat) (args : List SV)
  | split (c : BE)
  | fail (n : Nat)

def ev (sl : Slots) : Operand → SV
  | .tmp t => (get2 sl t).getD (.tup [])
  | .const v => ofConst v
  | .global g => .const (.pointer (some ⟨g, 0, none⟩))
  | .func f => .func (.func f) [] []

def eqCells : List CK → List SV → List SV → Option BE
  | [], [], [] => some (.lit true)
  | .int k :: ks, .int j a :: l, .int i b :: m => if keq k j then (if keq k i then (match eqCells ks l m with
      | some r => some (mkAnd (if a.beq b then .lit true else mkEq a b) r)
      | none => none) else none) else none
  | .bool :: ks, .bool a :: l, .bool b :: m => (match eqCells ks l m with
      | some r => some (mkAnd (if a.beq b then .lit true else mkIff a b) r)
      | none => none)
  | _, _, _ => none
def intCmp (op : BinOp) (a b : IE) : Option BE :=
  match op with
  | .eql => some (mkEq a b)
  | .neq => some (mkNot (mkEq a b))
  | .lss => some (mkNot (mkLe b a))
  | .leq => some (mkLe a b)
  | .gtr => some (mkNot (mkLe a b))
  | .geq => some (mkLe b a)
  | _ => none
def isShift : BinOp → Bool
  | .shl => true
  | .shr => true
  | _ => false
def symInt (pc : List BE) (op : BinOp) (k : IntKind) (a b : IE) : BR :=
  match op with
  | .add => .ok (.int k (mkAdd k pc a b))
  | .sub => .ok (.int k (mkSub k pc a b))
  | .mul => .ok (.int k (mkMul k pc a b))
  | .and => .ok (.int k (.bin .and k a b))
  | .or => .ok (.int k (.bin .or k a b))
  | .xor => .ok (.int k (.bin .xor k a b))
  | .andNot => .ok (.int k (.bin .andNot k a b))
  | .quo => match dec pc (mkEq b (.lit 0)) with
    | some false => .ok (.int k (.bin .quo k a b))
    | some true => .fail 11
    | none => .split (mkEq b (.lit 0))
  | .rem => match dec pc (mkEq b (.lit 0)) with
    | some false => .ok (.int k (.bin .rem k a b))
    | some true => .fail 12
    | none => .split (mkEq b (.lit 0))
  | op => match intCmp op a b with
    | some c => .ok (.bool c)
    | none => .fail 13
def symBin (T : Tab) (pc : List BE) (op : BinOp) (xt : TypeId) (x y : SV) : BR :=
  match x, y with
  | .int k a, .int j b =>
    if isShift op then (match dec pc (mkLe (.lit 0) b) with
      | some true => .ok (.int k (.bin op k a b))
      | some false => .fail 14
      | none => .split (mkLe (.lit 0) b))
    else if keq k j then symInt pc op k a b else .fail 15
  | .bool a, .bool b => (match T.ty.get xt with
    | some ti => (match ti.und, op with
      | .bool, .eql => .ok (.bool (mkIff a b))
      | .bool, .neq => .ok (.bool (mkNot (mkIff a b)))
      | _, _ => .fail 16)
    | none => .fail 16)
  | .agg xs, .agg ys => (match lk T.eqs xt with
      | some ks => (match eqCells ks xs ys with
          | some c => (match op with
            | .eql => .ok (.bool c)
            | .neq => .ok (.bool (mkNot c))
            | _ => .fail 17)
          | none => .fail 18)
      | none => .fail 19)
  | _, _ => .fail 21

/-- The place of a symbolic index among so many. -/
def place (pc : List BE) (e : IE) : Nat → Nat → OR
  | 0, _ => .fail 30
  | n + 1, j => match dec pc (mkEq e (.lit (j : Nat))) with
    | some true => .val (.int .i64 (.lit (j : Nat))) [] j
    | none => .split (mkEq e (.lit (j : Nat)))
    | some false => place pc e n (j + 1)
def idx (pc : List BE) (e : IE) (len : Nat) : OR :=
  match e with
  | .lit (.ofNat j) => if Nat.blt j len then .val (.tup []) [] j else .fail 31
  | .lit _ => .fail 32
  | e => if Nat.ble len 24 then place pc e len 0 else .fail 33

def allOne : List SV → Bool
  | [] => true
  | v :: l => if v.one then allOne l else false
/-- The cells of a new variable. -/
def newCells (h : SHeap) (nx : Nat) (cs : List SV) (t : TypeId) : OR := .val (.ptr nx 0) ((nx, .cells cs t) :: h) (nx + 1)
def loadAt (T : Tab) (h : SHeap) (nx : Nat) (t : TypeId) (n off : Nat) : OR :=
  match T.ty.get t, lk h n with
  | some ti, some (.cells cs _) =>
    if ti.agg then (if Nat.ble (off + ti.size) cs.length then .val (.agg ((cs.drop off).take ti.size)) h nx else .fail 40)
    else (match nth cs off with
      | some v => .val v h nx
      | none => .fail 41)
  | _, _ => .fail 42
def puts (cs : List SV) (off : Nat) : List SV → List SV
  | [] => cs
  | v :: l => puts (put cs off v) (off + 1) l
def storeAt (T : Tab) (h : SHeap) (nx : Nat) (t : TypeId) (n off : Nat) (x : SV) : OR :=
  match T.ty.get t, lk h n, x.cells with
  | some ti, some (.cells cs u), some vs =>
    if Nat.beq vs.length ti.size then (if Nat.ble (off + vs.length) cs.length then (if allOne vs then .val (.tup []) (up h n (.cells (puts cs off vs) u)) nx else .fail 45) else .fail 46) else .fail 47
  | _, _, _ => .fail 48
def fillS (places : Nat → Option (Nat × Nat)) (cells : List SV) : List (Nat × SV) → Option (List SV)
  | [] => some cells
  | (i, v) :: rest => match places i, v.cells with
    | some (off, size), some vs => if Nat.beq vs.length size then (if Nat.ble (off + vs.length) cells.length then fillS places (puts cells off vs) rest else none) else none
    | _, _ => none
def structPlaces (T : Tab) (fs : List (Nat × TypeId)) (i : Nat) : Option (Nat × Nat) :=
  match nth fs i with
  | some f => (match T.ty.get f.2 with
    | some ti => some (f.1, ti.size)
    | none => none)
  | none => none
def allTy (T : Tab) : List (Nat × TypeId) → Bool
  | [] => true
  | f :: fs => (match T.ty.get f.2 with
    | some _ => allTy T fs
    | none => false)
def reps (z : List SV) : Nat → List SV
  | 0 => []
  | n + 1 => z ++ reps z n
def symBuild (T : Tab) (h : SHeap) (nx : Nat) (t : TypeId) (parts : List (Nat × SV)) : OR :=
  match T.ty.get t with
  | some ti => (match ti.und with
    | .struct fs => if allTy T fs then (match fillS (structPlaces T fs) ti.zero parts with
      | some cs => .val (.agg cs) h nx
      | none => .fail 50) else .fail 49
    | .arr _ e => (match T.ty.get e with
      | some te => (match fillS (fun i => some (i * te.size, te.size)) ti.zero parts with
        | some cs => .val (.agg cs) h nx
        | none => .fail 51)
      | none => .fail 52)
    | _ => .fail 53)
  | none => .fail 54
def symBuildSlice (T : Tab) (h : SHeap) (nx : Nat) (t : TypeId) (len : Nat) (parts : List (Nat × SV)) : OR :=
  match T.ty.get t with
  | some ti => (match ti.und with
    | .slice e => (match T.ty.get e with
      | some te => if Nat.ble (len * te.size) 4096 then (match fillS (fun i => some (i * te.size, te.size)) (reps te.zero len) parts with
        | some cs => .val (.slice nx 0 len len) ((nx, .cells cs e) :: h) (nx + 1)
        | none => .fail 55) else .fail 56
      | none => .fail 57)
    | _ => .fail 58)
  | none => .fail 59
def symPart (T : Tab) (h : SHeap) (nx : Nat) (t : TypeId) (cs : List SV) (off : Nat) : OR :=
  match T.ty.get t with
  | some ti => if ti.agg then .val (.agg ((cs.drop off).take ti.size)) h nx else (match nth cs off with
      | some v => .val v h nx
      | none => .fail 60)
  | none => .fail 61
def symField (T : Tab) (h : SHeap) (nx : Nat) (s : TypeId) (x : SV) (i : Nat) : OR :=
  match T.ty.get s, x with
  | some ti, .agg cs => (match ti.und with
    | .struct fs => (match nth fs i with
      | some f => symPart T h nx f.2 cs f.1
      | none => .fail 62)
    | _ => .fail 63)
  | _, _ => .fail 64
def symFieldAddr (T : Tab) (h : SHeap) (nx : Nat) (s : TypeId) (x : SV) (i : Nat) : OR :=
  match T.ty.get s, x with
  | some ti, .ptr n off => (match ti.und with
    | .struct fs => (match nth fs i with
      | some f => (match T.ty.get f.2 with
        | some tf => if Nat.beq tf.size 0 then .fail 65 else .val (.ptr n (off + f.1)) h nx
        | none => .fail 66)
      | none => .fail 67)
    | _ => .fail 68)
  | _, _ => .fail 69
def symIndexAddr (T : Tab) (pc : List BE) (h : SHeap) (nx : Nat) (t : TypeId) (x i : SV) : OR :=
  match T.ty.get t, x, i with
  | some ti, .ptr n off, .int _ e => (match ti.und with
    | .arr len el => (match T.ty.get el with
      | some te => (match idx pc e len with
        | .val _ _ j => .val (.ptr n (off + j * te.size)) h nx
        | .split c => .split c
        | _ => .fail 70)
      | none => .fail 71)
    | _ => .fail 72)
  | some ti, .slice n off len _, .int _ e => (match ti.und with
    | .slice el => (match T.ty.get el with
      | some te => (match idx pc e len with
        | .val _ _ j => .val (.ptr n (off + j * te.size)) h nx
        | .split c => .split c
        | _ => .fail 73)
      | none => .fail 74)
    | _ => .fail 75)
  | _, _, _ => .fail 76
def symIndex (T : Tab) (pc : List BE) (h : SHeap) (nx : Nat) (t : TypeId) (x i : SV) : OR :=
  match T.ty.get t, x, i with
  | some ti, .agg cs, .int _ e => (match ti.und with
    | .arr len el => (match T.ty.get el with
      | some te => (match idx pc e len with
        | .val _ _ j => symPart T h nx el cs (j * te.size)
        | .split c => .split c
        | _ => .fail 77)
      | none => .fail 78)
    | _ => .fail 79)
  | _, _, _ => .fail 80
def symUn (op : UnOp) (pc : List BE) (x : SV) : Option SV :=
  match op, x with
  | .not, .bool b => some (.bool (mkNot b))
  | .neg, .int k e => some (.int k (mkSub k pc (.lit 0) e))
  | _, _ => none
def symConv (T : Tab) (pc : List BE) (src dst : TypeId) (x : SV) : Option SV :=
  match T.ty.get src, T.ty.get dst, x with
  | some _, some ti, .int _ e => (match ti.und with
    | .int k => some (.int k (mkConv k pc e))
    | _ => none)
  | _, _, _ => none
def symLen (T : Tab) (t : TypeId) (x : SV) : Option SV :=
  match T.ty.get t with
  | some ti => (match ti.und, x with
    | .arr n _, _ => some (.int .i64 (.lit (n : Nat)))
    | .slice _, .slice _ _ len _ => some (.int .i64 (.lit (len : Nat)))
    | .slice _, .const (.slice none 0 0) => some (.int .i64 (.lit 0))
    | _, _ => none)
  | none => none
def symCall (T : Tab) (pc : List BE) (h : SHeap) (nx : Nat) (sl : Slots) (c : Call) : OR :=
  match c.callee with
  | .builtin b => (match b, c.argTypes.toList, c.args.toList with
    | .len, t :: _, x :: _ => (match symLen T t (ev sl x) with
      | some v => .val v h nx
      | none => .fail 90)
    | _, _, _ => .fail 91)
  | .invoke _ _ => .fail 92
  | .value f => (match ev sl f with
    | .func (.func g) first captured => .enter g (first ++ c.args.toList.map (ev sl) ++ captured)
    | .func (.yield l) [] _ => .round l (c.args.toList.map (ev sl))
    | _ => .fail 93)
def opPick (pc : List BE) (h : SHeap) (nx : Nat) (sl : Slots) (c a b : Operand) : OR :=
  match ev sl c with
  | .bool t => (match dec pc t with
    | some true => .val (ev sl a) h nx
    | some false => .val (ev sl b) h nx
    | none => .split (atom pc t))
  | _ => .fail 1
def opAlloc (T : Tab) (h : SHeap) (nx : Nat) (t : TypeId) : OR :=
  match T.ty.get t with
  | some ti => newCells h nx ti.zero t
  | none => .fail 2
def opBox (h : SHeap) (nx : Nat) (sl : Slots) (t : TypeId) (x : Operand) : OR :=
  match (ev sl x).cells with
  | some cs => newCells h nx cs t
  | none => .fail 3
def opLoad (T : Tab) (h : SHeap) (nx : Nat) (sl : Slots) (t : TypeId) (a : Operand) : OR :=
  match ev sl a with
  | .ptr n off => loadAt T h nx t n off
  | _ => .fail 4
def opStore (T : Tab) (h : SHeap) (nx : Nat) (sl : Slots) (t : TypeId) (a x : Operand) : OR :=
  match ev sl a with
  | .ptr n off => storeAt T h nx t n off (ev sl x)
  | _ => .fail 5
def opNil (h : SHeap) (nx : Nat) (sl : Slots) (x : Operand) : OR :=
  match ev sl x with
  | .ptr n off => .val (.ptr n off) h nx
  | .func (.func f) a b => .val (.func (.func f) a b) h nx
  | _ => .fail 6
def opBin (T : Tab) (pc : List BE) (h : SHeap) (nx : Nat) (sl : Slots) (op : BinOp) (xt : TypeId) (x y : Operand) : OR :=
  match symBin T pc op xt (ev sl x) (ev sl y) with
  | .ok v => fSV v fun v => .val v h nx
  | .split c => .split (atom pc c)
  | .fail n => .fail n
def opUn (pc : List BE) (h : SHeap) (nx : Nat) (sl : Slots) (op : UnOp) (x : Operand) : OR :=
  match symUn op pc (ev sl x) with
  | some v => fSV v fun v => .val v h nx
  | none => .fail 7
def opConv (T : Tab) (pc : List BE) (h : SHeap) (nx : Nat) (sl : Slots) (src dst : TypeId) (x : Operand) : OR :=
  match symConv T pc src dst (ev sl x) with
  | some v => fSV v fun v => .val v h nx
  | none => .fail 8
def opExtract (h : SHeap) (nx : Nat) (sl : Slots) (t : Operand) (i : Nat) : OR :=
  match ev sl t with
  | .tup vs => (match nth vs i with
    | some v => .val v h nx
    | none => .fail 9)
  | _ => .fail 10
def opFunc (h : SHeap) (nx : Nat) (sl : Slots) (fn : Fn) (first captured : Array Operand) : OR :=
  match fn with
  | .yield _ => .fail 94
  | fn => .val (.func fn (first.toList.map (ev sl)) (captured.toList.map (ev sl))) h nx
def opBuild (T : Tab) (h : SHeap) (nx : Nat) (sl : Slots) (t : TypeId) (parts : Array (Nat × Operand)) : OR :=
  symBuild T h nx t (parts.toList.map fun p => (p.1, ev sl p.2))
def opBuildSlice (T : Tab) (h : SHeap) (nx : Nat) (sl : Slots) (t : TypeId) (len : Nat) (parts : Array (Nat × Operand)) : OR :=
  symBuildSlice T h nx t len (parts.toList.map fun p => (p.1, ev sl p.2))
def opMove (h : SHeap) (nx : Nat) (sl : Slots) (x : Operand) : OR := .val (ev sl x) h nx
def opFA (T : Tab) (h : SHeap) (nx : Nat) (sl : Slots) (s : TypeId) (x : Operand) (f : Nat) : OR := symFieldAddr T h nx s (ev sl x) f
def opF (T : Tab) (h : SHeap) (nx : Nat) (sl : Slots) (s : TypeId) (x : Operand) (f : Nat) : OR := symField T h nx s (ev sl x) f
def opIA (T : Tab) (pc : List BE) (h : SHeap) (nx : Nat) (sl : Slots) (t : TypeId) (x i : Operand) : OR := symIndexAddr T pc h nx t (ev sl x) (ev sl i)
def opI (T : Tab) (pc : List BE) (h : SHeap) (nx : Nat) (sl : Slots) (t : TypeId) (x i : Operand) : OR := symIndex T pc h nx t (ev sl x) (ev sl i)
def symOp (T : Tab) (pc : List BE) (h : SHeap) (nx : Nat) (sl : Slots) (o : Oper) : OR :=
  match o.op with
  | .move x => opMove h nx sl x
  | .assign x => opMove h nx sl x
  | .pick c a b => opPick pc h nx sl c a b
  | .alloc t => opAlloc T h nx t
  | .box t x => opBox h nx sl t x
  | .build t parts => opBuild T h nx sl t parts
  | .buildSlice t len parts => opBuildSlice T h nx sl t len parts
  | .load t a => opLoad T h nx sl t a
  | .store t a x => opStore T h nx sl t a x
  | .nilCheck x => opNil h nx sl x
  | .binOp op xt x y _ => opBin T pc h nx sl op xt x y
  | .unOp op _ x => opUn pc h nx sl op x
  | .convert src dst x => opConv T pc h nx sl src dst x
  | .makeFunc fn first captured => opFunc h nx sl fn first captured
  | .fieldAddr s x f => opFA T h nx sl s x f
  | .field s x f => opF T h nx sl s x f
  | .indexAddr t x i => opIA T pc h nx sl t x i
  | .index t x i => opI T pc h nx sl t x i
  | .extract t i => opExtract h nx sl t i
  | .call c => symCall T pc h nx sl c
  | _ => .fail 99
end
end Go.Proofs.Ytjgkaimgocnkmab.Sx
