/- A reckoner of Go's small steps over letters: one operation. No condition. -/
import Derived.Test.YtjgkaimgocnkmabSx1b
set_option linter.unusedVariables false
set_option linter.unusedSimpArgs false
namespace Go.Proofs.Ytjgkaimgocnkmab.Sx
open Go
noncomputable section

inductive BR where
  | ok (v : SV)
  | split (c : BE)
  | fail (n : Nat)
inductive OR where
  | val (v : SV) (h : SHeap) (nx : Nat)
  | enter (f : FuncId) (args : List SV)
  | round (n : Nat) (args : List SV)
  | split (c : BE)
  | fail (n : Nat)

def ev (sl : Slots) : Operand → SV
  | .tmp t => (get2 sl t).getD (.tup [])
  | .const v => ofConst v
  | .global g => .const (.pointer (some ⟨g, 0, none⟩))
  | .func f => .func (.func f) [] []

def eqCells : List CK → List SV → List SV → Option BE
  | [], [], [] => some (.lit true)
  | .int k :: ks, .int j a :: l, .int i b :: m => if keq k j then (if keq k i then (match eqCells ks l m with
      | some r => some (mkAnd (if a.beq b then .lit true else mkEq a b) r)
      | none => none) else none) else none
  | .bool :: ks, .bool a :: l, .bool b :: m => (match eqCells ks l m with
      | some r => some (mkAnd (if a.beq b then .lit true else mkIff a b) r)
      | none => none)
  | _, _, _ => none
def intCmp (op : BinOp) (a b : IE) : Option BE :=
  match op with
  | .eql => some (mkEq a b)
  | .neq => some (mkNot (mkEq a b))
  | .lss => some (mkNot (mkLe b a))
  | .leq => some (mkLe a b)
  | .gtr => some (mkNot (mkLe a b))
  | .geq => some (mkLe b a)
  | _ => none
def isShift : BinOp → Bool
  | .shl => true
  | .shr => true
  | _ => false
def symInt (pc : List BE) (op : BinOp) (k : IntKind) (a b : IE) : BR :=
  match op with
  | .add => .ok (.int k (mkAdd k pc a b))
  | .sub => .ok (.int k (mkSub k pc a b))
  | .mul => .ok (.int k (mkMul k pc a b))
  | .and => .ok (.int k (mkBin .and k a b))
  | .or => .ok (.int k (mkBin .or k a b))
  | .xor => .ok (.int k (mkBin .xor k a b))
  | .andNot => .ok (.int k (mkBin .andNot k a b))
  | .quo => match dec pc (mkEq b (.lit 0)) with
    | some false => .ok (.int k (mkBin .quo k a b))
    | some true => .fail 11
    | none => .split (mkEq b (.lit 0))
  | .rem => match dec pc (mkEq b (.lit 0)) with
    | some false => .ok (.int k (mkBin .rem k a b))
    | some true => .fail 12
    | none => .split (mkEq b (.lit 0))
  | op => match intCmp op a b with
    | some c => .ok (.bool c)
    | none => .fail 13
/- strings -/
def inByte (pc : List BE) (e : IE) : Bool :=
  match rng pc e with
  | (some a, some b) => if ileb 0 a then ileb b 255 else false
  | _ => false
def allByte (pc : List BE) : List IE → Bool
  | [] => true
  | e :: l => if inByte pc e then allByte pc l else false
def eqBytes : List IE → List IE → BE
  | [], [] => .lit true
  | a :: l, b :: m => mkAnd (if a.beq b then .lit true else mkEq a b) (eqBytes l m)
  | _, _ => .lit false
def lessBytes : List IE → List IE → Option Bool
  | _, [] => some false
  | [], _ :: _ => some true
  | .lit a :: l, .lit b :: m => if ileb b a then (if ileb a b then lessBytes l m else some false) else some true
  | _, _ => none
def litEq : List IE → List IE → Bool
  | [], [] => true
  | .lit a :: l, .lit b :: m => if ieqb a b then litEq l m else false
  | _, _ => false
def symStr (pc : List BE) (op : BinOp) (xs ys : List IE) : BR :=
  match op with
  | .add => if Nat.ble (xs.length + ys.length) 1000000 then .ok (.str (xs ++ ys)) else .fail 22
  | op => if allByte pc xs then (if allByte pc ys then (match op with
    | .eql => .ok (.bool (if Nat.beq xs.length ys.length then eqBytes xs ys else .lit false))
    | .neq => .ok (.bool (mkNot (if Nat.beq xs.length ys.length then eqBytes xs ys else .lit false)))
    | .lss => (match lessBytes xs ys with
      | some b => .ok (.bool (.lit b))
      | none => .fail 23)
    | .geq => (match lessBytes xs ys with
      | some b => .ok (.bool (.lit (!b)))
      | none => .fail 23)
    | _ => .fail 24) else .fail 25) else .fail 25
def asL (roms : List (Nat × (Nat × List CK))) (pc : List BE) : SV → Option LE
  | .lstr l => if typedB roms pc l then some l else none
  | .str bs => if allK pc bs then some (strL bs) else none
  | _ => none
def eqLs (pc : List BE) (l m : LE) : BE :=
  match l, m with
  | .nil, m => mkEq (lenE pc m) (.lit 0)
  | l, .nil => mkEq (lenE pc l) (.lit 0)
  | l, m => mkLeq l m
def symLstr (T : Tab) (pc : List BE) (op : BinOp) (x y : SV) : BR :=
  match asL T.orac.rom pc x, asL T.orac.rom pc y with
  | some l, some m => (match op with
    | .eql => .ok (.bool (eqLs pc l m))
    | .neq => .ok (.bool (mkNot (eqLs pc l m)))
    | .add => (match dec pc (mkLe (addE (lenE pc l) (lenE pc m)) (.lit 1000000)) with
      | some true => .ok (.lstr (catE l m))
      | _ => .fail 530)
    | _ => .fail 531)
  | _, _ => .fail 532
/-- Whether one is nil, where the other one is. -/
def eqNil : ST → SV → SV → Option Bool
  | .ptr, .const (.pointer none), .const (.pointer none) => some true
  | .ptr, .ptr _ _, .const (.pointer none) => some false
  | .ptr, .const (.pointer none), .ptr _ _ => some false
  | .slice _, .const (.slice none 0 0), .const (.slice none 0 0) => some true
  | .slice _, .slice _ _ _ _, .const (.slice none 0 0) => some false
  | .slice _, .sl _ _ _ _ _, .const (.slice none 0 0) => some false
  | .slice _, .sll _ _ _ _ _ _, .const (.slice none 0 0) => some false
  | .func, .const .nilFunc, .const .nilFunc => some true
  | .func, .func _ _ _, .const .nilFunc => some false
  | .func, .const .nilFunc, .func _ _ _ => some false
  | .iface, .iface _ _, .const .nilIface => some false
  | .map _ _, .const (.map none), .const (.map none) => some true
  | _, _, _ => none
def symNil (T : Tab) (op : BinOp) (xt : TypeId) (x y : SV) : BR :=
  match T.ty.get xt with
  | some ti => (match eqNil ti.und x y with
    | some b => (match op with
      | .eql => .ok (.bool (.lit b))
      | .neq => .ok (.bool (.lit (!b)))
      | _ => .fail 26)
    | none => .fail 27)
  | none => .fail 28
/-- What holds things is not nil. -/
def rnilE (T : Tab) (pc : List BE) (r : Nat) : BE :=
  match lk T.orac.rom r with
  | some _ => (match dec pc (.le (.lit 1) (.len (.rom r))) with
    | some true => .lit false
    | _ => .rnil r)
  | none => .rnil r
def symRnil (T : Tab) (pc : List BE) (op : BinOp) (xt : TypeId) (r : Nat) : BR :=
  match T.ty.get xt with
  | some ti => (match ti.und, op with
    | .slice _, .eql => .ok (.bool (rnilE T pc r))
    | .slice _, .neq => .ok (.bool (mkNot (rnilE T pc r)))
    | _, _ => .fail 29)
  | none => .fail 28
def symBin (T : Tab) (pc : List BE) (op : BinOp) (xt : TypeId) (x y : SV) : BR :=
  match x, y with
  | .int k a, .int j b =>
    if isShift op then (match dec pc (mkLe (.lit 0) b) with
      | some true => .ok (.int k (mkBin op k a b))
      | some false => .fail 14
      | none => .split (mkLe (.lit 0) b))
    else if keq k j then symInt pc op k a b else .fail 15
  | .bool a, .bool b => (match T.ty.get xt with
    | some ti => (match ti.und, op with
      | .bool, .eql => .ok (.bool (mkIff a b))
      | .bool, .neq => .ok (.bool (mkNot (mkIff a b)))
      | _, _ => .fail 16)
    | none => .fail 16)
  | .agg xs, .agg ys => (match lk T.eqs xt with
      | some ks => (match eqCells ks xs ys with
          | some c => (match op with
            | .eql => .ok (.bool c)
            | .neq => .ok (.bool (mkNot c))
            | _ => .fail 17)
          | none => .fail 18)
      | none => .fail 19)
  | .str xs, .str ys => symStr pc op xs ys
  | .lstr l, y => symLstr T pc op (.lstr l) y
  | .str xs, .lstr m => symLstr T pc op (.str xs) (.lstr m)
  | .rom r off len cap, .const (.slice none 0 0) => symRnil T pc op xt r
  | x, y => symNil T op xt x y

/-- The place of a symbolic index among so many. -/
def place (pc : List BE) (e : IE) : Nat → Nat → OR
  | 0, _ => .fail 30
  | n + 1, j => match dec pc (mkLe e (.lit (j : Nat))) with
    | some true => (match dec pc (mkLe (.lit (j : Nat)) e) with
      | some true => .val (.int .i64 (.lit (j : Nat))) [] j
      | none => .split (mkLe (.lit (j : Nat)) e)
      | some false => .fail 34)
    | none => .split (mkLe e (.lit (j : Nat)))
    | some false => place pc e n (j + 1)
def idx (pc : List BE) (e : IE) (len : Nat) : OR :=
  match e with
  | .lit (.ofNat j) => if Nat.blt j len then .val (.tup []) [] j else .fail 31
  | .lit _ => .fail 32
  | e => if Nat.ble len 24 then place pc e len 0 else .fail 33

def allOne : List SV → Bool
  | [] => true
  | v :: l => if v.one then allOne l else false
/-- The cells of a new variable. -/
def newCells (h : SHeap) (nx : Nat) (cs : List SV) (t : TypeId) : OR := .val (.ptr nx 0) ((nx, .cells cs t) :: h) (nx + 1)
def SObj.cs : SObj → Option (List SV)
  | .cells cs _ => some cs
  | .row cs _ _ _ => some cs
  | _ => none
def SObj.put : SObj → List SV → SObj
  | .cells _ t, cs => .cells cs t
  | .row _ t cn sz, cs => .row cs t cn sz
  | o, _ => o
def ocs (h : SHeap) (n : Nat) : Option (List SV) :=
  match lk h n with
  | some o => o.cs
  | none => none
def loadAt (T : Tab) (h : SHeap) (nx : Nat) (t : TypeId) (n off : Nat) : OR :=
  match T.ty.get t, ocs h n with
  | some ti, some cs =>
    if ti.agg then (if Nat.ble (off + ti.size) cs.length then .val (.agg ((cs.drop off).take ti.size)) h nx else .fail 40)
    else (match nth cs off with
      | some v => .val v h nx
      | none => .fail 41)
  | _, _ => .fail 42
def puts (cs : List SV) (off : Nat) : List SV → List SV
  | [] => cs
  | v :: l => puts (put cs off v) (off + 1) l
def storeAt (T : Tab) (h : SHeap) (nx : Nat) (t : TypeId) (n off : Nat) (x : SV) : OR :=
  match T.ty.get t, lk h n, x.cells with
  | some ti, some o, some vs => (match o.cs with
    | some cs => if Nat.beq vs.length ti.size then (if Nat.ble (off + vs.length) cs.length then (if allOne vs then .val (.tup []) (up h n (o.put (puts cs off vs))) nx else .fail 45) else .fail 46) else .fail 47
    | none => .fail 44)
  | _, _, _ => .fail 48
/-- Of an element's cells those of a thing of type t, from cell c on. -/
def pickCs (ti : TI) (c : Nat) (h : SHeap) (nx : Nat) (cs : List SV) : OR :=
  if ti.agg then (if Nat.ble (c + ti.size) cs.length then .val (.agg ((cs.drop c).take ti.size)) h nx else .fail 36)
  else (match nth cs c with
    | some v => .val v h nx
    | none => .fail 37)
/-- A check that must hold. -/
def needO (pc : List BE) (c : BE) (k : OR) (n : Nat) : OR :=
  match dec pc c with
  | some true => k
  | some false => .fail n
  | none => .split (atom pc c)
/-- An element of what came in. -/
def loadRom (T : Tab) (pc : List BE) (h : SHeap) (nx : Nat) (t : TypeId) (r : Nat) (i : IE) (c : Nat) : OR :=
  match T.ty.get t, lk T.orac.rom r with
  | some ti, some (esz, ks) =>
    needO pc (mkLe (.lit 0) i) (needO pc (mkNot (mkLe (.len (.rom r)) i)) (pickCs ti c h nx (atomsAt (.rom r) i ks 0)) 35) 38
  | _, _ => .fail 39
def loadL (T : Tab) (pc : List BE) (h : SHeap) (nx : Nat) (t : TypeId) (n sz : Nat) (i : IE) (c : Nat) : OR :=
  match T.ty.get t, lk h n with
  | some ti, some (.rowl l tot ks _ _ zs) => if Nat.beq zs sz then
    needO pc (mkLe (.lit 0) i) (needO pc (mkNot (mkLe tot i)) (match elemAt pc ks l i with
      | .el cs => pickCs ti c h nx cs
      | .split b => .split b
      | .fail n => .fail n) 35) 38 else .fail 39
  | _, _ => .fail 39
def storeEl (T : Tab) (pc : List BE) (h : SHeap) (nx n : Nat) (l : LE) (tot : IE) (ks : List CK) (u cn zs : Nat) (i : IE) (cs : List SV) : OR :=
  match toAL T.orac.rom pc ks cs with
  | some a => .val (.tup []) (up h n (.rowl (setE l i a) tot ks u cn zs)) nx
  | none => .fail 510
def storePart (T : Tab) (pc : List BE) (h : SHeap) (nx n : Nat) (l : LE) (tot : IE) (ks : List CK) (u cn zs : Nat) (i : IE) (c : Nat) (vs : List SV) : OR :=
  match elemAt pc ks l i with
  | .el cs => if Nat.ble (c + vs.length) cs.length then storeEl T pc h nx n l tot ks u cn zs i (puts cs c vs) else .fail 511
  | .split b => .split b
  | .fail n => .fail n
def storeL (T : Tab) (pc : List BE) (h : SHeap) (nx : Nat) (t : TypeId) (n sz : Nat) (i : IE) (c : Nat) (x : SV) : OR :=
  match T.ty.get t, lk h n, x.cells with
  | some ti, some (.rowl l tot ks u cn zs), some vs => if Nat.beq zs sz then (if Nat.beq vs.length ti.size then
    needO pc (mkLe (.lit 0) i) (needO pc (mkNot (mkLe tot i)) (if Nat.beq (vs.length + c) sz then (if Nat.beq c 0 then storeEl T pc h nx n l tot ks u cn zs i vs else storePart T pc h nx n l tot ks u cn zs i c vs) else storePart T pc h nx n l tot ks u cn zs i c vs) 35) 38 else .fail 512) else .fail 513
  | _, _, _ => .fail 514
def fillS (places : Nat → Option (Nat × Nat)) (cells : List SV) : List (Nat × SV) → Option (List SV)
  | [] => some cells
  | (i, v) :: rest => match places i, v.cells with
    | some (off, size), some vs => if Nat.beq vs.length size then (if Nat.ble (off + vs.length) cells.length then fillS places (puts cells off vs) rest else none) else none
    | _, _ => none
def structPlaces (T : Tab) (fs : List (Nat × TypeId)) (i : Nat) : Option (Nat × Nat) :=
  match nth fs i with
  | some f => (match T.ty.get f.2 with
    | some ti => some (f.1, ti.size)
    | none => none)
  | none => none
def allTy (T : Tab) : List (Nat × TypeId) → Bool
  | [] => true
  | f :: fs => (match T.ty.get f.2 with
    | some _ => allTy T fs
    | none => false)
def reps (z : List SV) : Nat → List SV
  | 0 => []
  | n + 1 => z ++ reps z n
def symBuild (T : Tab) (h : SHeap) (nx : Nat) (t : TypeId) (parts : List (Nat × SV)) : OR :=
  match T.ty.get t with
  | some ti => (match ti.und with
    | .struct fs => if allTy T fs then (match fillS (structPlaces T fs) ti.zero parts with
      | some cs => .val (.agg cs) h nx
      | none => .fail 50) else .fail 49
    | .arr _ e => (match T.ty.get e with
      | some te => (match fillS (fun i => some (i * te.size, te.size)) ti.zero parts with
        | some cs => .val (.agg cs) h nx
        | none => .fail 51)
      | none => .fail 52)
    | _ => .fail 53)
  | none => .fail 54
def symBuildSlice (T : Tab) (h : SHeap) (nx : Nat) (t : TypeId) (len : Nat) (parts : List (Nat × SV)) : OR :=
  match T.ty.get t with
  | some ti => (match ti.und with
    | .slice e => (match T.ty.get e with
      | some te => if Nat.ble (len * te.size) 4096 then (match fillS (fun i => some (i * te.size, te.size)) (reps te.zero len) parts with
        | some cs => .val (.slice nx 0 len len) ((nx, .cells cs e) :: h) (nx + 1)
        | none => .fail 55) else .fail 56
      | none => .fail 57)
    | _ => .fail 58)
  | none => .fail 59
def symPart (T : Tab) (h : SHeap) (nx : Nat) (t : TypeId) (cs : List SV) (off : Nat) : OR :=
  match T.ty.get t with
  | some ti => if ti.agg then .val (.agg ((cs.drop off).take ti.size)) h nx else (match nth cs off with
      | some v => .val v h nx
      | none => .fail 60)
  | none => .fail 61
def symField (T : Tab) (h : SHeap) (nx : Nat) (s : TypeId) (x : SV) (i : Nat) : OR :=
  match T.ty.get s, x with
  | some ti, .agg cs => (match ti.und with
    | .struct fs => (match nth fs i with
      | some f => symPart T h nx f.2 cs f.1
      | none => .fail 62)
    | _ => .fail 63)
  | _, _ => .fail 64
def symFieldAddr (T : Tab) (h : SHeap) (nx : Nat) (s : TypeId) (x : SV) (i : Nat) : OR :=
  match T.ty.get s, x with
  | some ti, .ptr n off => (match ti.und with
    | .struct fs => (match nth fs i with
      | some f => (match T.ty.get f.2 with
        | some tf => if Nat.beq tf.size 0 then .fail 65 else .val (.ptr n (off + f.1)) h nx
        | none => .fail 66)
      | none => .fail 67)
    | _ => .fail 68)
  | some ti, .rptr r e c => (match ti.und with
    | .struct fs => (match nth fs i with
      | some f => (match T.ty.get f.2 with
        | some tf => if Nat.beq tf.size 0 then .fail 65 else .val (.rptr r e (c + f.1)) h nx
        | none => .fail 66)
      | none => .fail 67)
    | _ => .fail 68)
  | some ti, .lptr n z e c => (match ti.und with
    | .struct fs => (match nth fs i with
      | some f => (match T.ty.get f.2 with
        | some tf => if Nat.beq tf.size 0 then .fail 65 else .val (.lptr n z e (c + f.1)) h nx
        | none => .fail 66)
      | none => .fail 67)
    | _ => .fail 68)
  | _, _ => .fail 69
def symIndexAddr (T : Tab) (pc : List BE) (h : SHeap) (nx : Nat) (t : TypeId) (x i : SV) : OR :=
  match T.ty.get t, x, i with
  | some ti, .ptr n off, .int _ e => (match ti.und with
    | .arr len el => (match T.ty.get el with
      | some te => (match idx pc e len with
        | .val _ _ j => .val (.ptr n (off + j * te.size)) h nx
        | .split c => .split c
        | _ => .fail 70)
      | none => .fail 71)
    | _ => .fail 72)
  | some ti, .slice n off len _, .int _ e => (match ti.und with
    | .slice el => (match T.ty.get el with
      | some te => (match idx pc e len with
        | .val _ _ j => .val (.ptr n (off + j * te.size)) h nx
        | .split c => .split c
        | _ => .fail 73)
      | none => .fail 74)
    | _ => .fail 75)
  | some ti, .sl n _ sz off len, .int _ e => (match ti.und with
    | .slice el => (match T.ty.get el with
      | some te => (match idx pc e len with
        | .val _ _ j => if Nat.beq te.size sz then .val (.ptr n (off * sz + j * sz)) h nx else .fail 81
        | .split c => .split c
        | _ => .fail 73)
      | none => .fail 74)
    | _ => .fail 75)
  | some ti, .rom r off len _, .int _ e => (match ti.und with
    | .slice el => (match T.ty.get el, lk T.orac.rom r with
      | some te, some (esz, _) => if Nat.beq te.size esz then
        needO pc (mkLe (.lit 0) e) (needO pc (mkNot (mkLe len e)) (needO pc (mkLe (.lit 0) (resI pc off)) (needO pc (mkNot (mkLe (.len (.rom r)) (addE (resI pc off) e))) (.val (.rptr r (addE (resI pc off) e) 0) h nx) 81) 85) 82) 83 else .fail 84
      | _, _ => .fail 74)
    | _ => .fail 75)
  | some ti, .sll n _ sz off len _, .int _ e => (match ti.und with
    | .slice el => (match T.ty.get el with
      | some te => if Nat.beq te.size sz then
        needO pc (mkLe (.lit 0) e) (needO pc (mkNot (mkLe len e)) (needO pc (mkLe (.lit 0) (resI pc off)) (.val (.lptr n sz (addE (resI pc off) e) 0) h nx) 85) 82) 83 else .fail 84
      | _ => .fail 74)
    | _ => .fail 75)
  | some ti, .const (.pointer (some ⟨g, off, none⟩)), .int _ e => (match ti.und with
    | .arr len el => (match T.ty.get el with
      | some te => (match idx pc e len with
        | .val _ _ j => .val (.const (.pointer (some ⟨g, off + j * te.size, none⟩))) h nx
        | .split c => .split c
        | _ => .fail 70)
      | none => .fail 71)
    | _ => .fail 72)
  | _, _, _ => .fail 76
def symIndex (T : Tab) (pc : List BE) (h : SHeap) (nx : Nat) (t : TypeId) (x i : SV) : OR :=
  match T.ty.get t, x, i with
  | some ti, .str bs, .int _ e => (match ti.und with
    | .str => (match idx pc e bs.length with
      | .val _ _ j => (match nth bs j with
        | some b => if inByte pc b then .val (.int .u8 b) h nx else .fail 85
        | none => .fail 86)
      | .split c => .split c
      | _ => .fail 87)
    | _ => .fail 88)
  | some ti, .lstr l, .int _ e => (match ti.und with
    | .str => if typedB T.orac.rom pc l then needO pc (mkLe (.lit 0) e) (needO pc (mkNot (mkLe (lenE pc l) e)) (match elemAt pc byteK l e with
      | .el [v] => .val v h nx
      | .el _ => .fail 520
      | .split b => .split b
      | .fail n => .fail n) 521) 522 else .fail 523
    | _ => .fail 88)
  | some ti, .agg cs, .int _ e => (match ti.und with
    | .arr len el => (match T.ty.get el with
      | some te => (match idx pc e len with
        | .val _ _ j => symPart T h nx el cs (j * te.size)
        | .split c => .split c
        | _ => .fail 77)
      | none => .fail 78)
    | _ => .fail 79)
  | _, _, _ => .fail 80
def symUn (op : UnOp) (pc : List BE) (x : SV) : Option SV :=
  match op, x with
  | .not, .bool b => some (.bool (mkNot b))
  | .neg, .int k e => some (.int k (mkSub k pc (.lit 0) e))
  | .xor, .int k e => some (.int k (mkBin .xor k (.lit (if k.signed then -1 else k.max)) e))
  | _, _ => none
def symConv (T : Tab) (pc : List BE) (src dst : TypeId) (x : SV) : Option SV :=
  match T.ty.get src, T.ty.get dst, x with
  | some _, some ti, .int _ e => (match ti.und with
    | .int k => some (.int k (mkConv k pc e))
    | _ => none)
  | _, _, _ => none
def symLen (T : Tab) (t : TypeId) (x : SV) : Option SV :=
  match T.ty.get t with
  | some ti => (match ti.und, x with
    | .arr n _, _ => some (.int .i64 (.lit (n : Nat)))
    | .slice _, .slice _ _ len _ => some (.int .i64 (.lit (len : Nat)))
    | .slice _, .sl _ _ _ _ len => some (.int .i64 (.lit (len : Nat)))
    | .str, .str bs => some (.int .i64 (.lit (bs.length : Nat)))
    | .slice _, .const (.slice none 0 0) => some (.int .i64 (.lit 0))
    | _, _ => none)
  | none => none
def symCap (T : Tab) (t : TypeId) (x : SV) : Option SV :=
  match T.ty.get t with
  | some ti => (match ti.und, x with
    | .arr n _, _ => some (.int .i64 (.lit (n : Nat)))
    | .slice _, .slice _ _ _ cap => some (.int .i64 (.lit (cap : Nat)))
    | .slice _, .const (.slice none 0 0) => some (.int .i64 (.lit 0))
    | _, _ => none)
  | none => none
/- the least, the greatest -/
def min2S (pc : List BE) : SV → SV → BR
  | .int k a, .int j b => if keq k j then (match dec pc (mkLe a b) with
    | some true => .ok (.int k a)
    | some false => .ok (.int k b)
    | none => .split (atom pc (mkLe a b))) else .fail 100
  | _, _ => .fail 101
def max2S (pc : List BE) : SV → SV → BR
  | .int k a, .int j b => if keq k j then (match dec pc (mkLe a b) with
    | some true => .ok (.int k b)
    | some false => .ok (.int k a)
    | none => .split (atom pc (mkLe a b))) else .fail 102
  | _, _ => .fail 103
def foldM2 (g : SV → SV → BR) (x : SV) : List SV → BR
  | [] => .ok x
  | y :: l => (match g x y with
    | .ok v => foldM2 g v l
    | r => r)
/- slices -/
def litN : SV → Option Nat
  | .int _ (.lit (.ofNat n)) => some n
  | _ => none
def litOr (d : Nat) (sl : Slots) : Option Operand → Option Nat
  | none => some d
  | some x => litN (ev sl x)
def three (sl : Slots) (len cap : Nat) (lo hi mx : Option Operand) : Option (Nat × Nat × Nat) :=
  match litOr cap sl mx, litOr len sl hi, litOr 0 sl lo with
  | some m, some u, some l => if Nat.ble m cap then (if Nat.ble u m then (if Nat.ble l u then (match mx, hi with
    | some _, none => none
    | _, _ => some (l, u, m)) else none) else none) else none
  | _, _, _ => none
def sliceOf (h : SHeap) (nx n off size : Nat) : Option (Nat × Nat × Nat) → OR
  | some (l, u, m) => .val (.slice n (if Nat.beq m l then off else off + l * size) (u - l) (m - l)) h nx
  | none => .fail 110
inductive SR where
  | ok (off len : IE) (cap : Option IE)
  | split (c : BE)
  | fail (n : Nat)
def needS (pc : List BE) (c : BE) (k : SR) (n : Nat) : SR :=
  match dec pc c with
  | some true => k
  | some false => .fail n
  | none => .split (atom pc c)
def intE (sl : Slots) : Option Operand → Option (Option IE)
  | none => some none
  | some x => (match ev sl x with
    | .int _ e => some (some e)
    | _ => none)
def orE (d : IE) : Option IE → IE
  | none => d
  | some e => e
/-- Where the new slice begins, if it is l behind; m: its bound. -/
def offS (pc : List BE) (off len m l h : IE) : SR :=
  match l with
  | .lit (.ofNat 0) => .ok off h (some m)
  | l => (match dec pc (mkEq m l) with
    | some true => .ok off (subE h l) (some (.lit 0))
    | some false => .ok (addE off l) (subE h l) (some (subE m l))
    | none => .split (atom pc (mkEq m l)))
/-- A part of a slice; room: what is known to be there; alt: its capacity. -/
def sliceE (pc : List BE) (off len room : IE) (cap alt : Option IE) (lo hi mx : Option IE) : SR :=
  needS pc (mkLe (.lit 0) off) (match mx with
  | some m => needS pc (mkLe (.lit 0) m) (needS pc (mkLe m room) (needS pc (mkLe (.lit 0) (orE len hi)) (needS pc (mkLe (orE len hi) m) (needS pc (mkLe (.lit 0) (orE (.lit 0) lo)) (needS pc (mkLe (orE (.lit 0) lo) (orE len hi))
      (match hi with
      | none => .fail 600
      | some h => offS pc off len m (orE (.lit 0) lo) h) 601) 602) 603) 604) 605) 606
  | none => needS pc (mkLe (.lit 0) (orE len hi)) (needS pc (mkLe (orE len hi) room) (needS pc (mkLe (.lit 0) (orE (.lit 0) lo)) (needS pc (mkLe (orE (.lit 0) lo) (orE len hi))
      (match lo with
      | none => .ok off (orE len hi) cap
      | some l => (match cap with
        | some e => offS pc off len e l (orE len hi)
        | none => (match l with
          | .lit (.ofNat 0) => .ok off (orE len hi) none
          | l => (match dec pc (mkLe room l) with
            | some false => .ok (addE off l) (subE (orE len hi) l) none
            | some true => (match alt with
              | some c => .ok (.ite (.eq c l) off (addE off l)) (subE (orE len hi) l) (some (subE c l))
              | none => .fail 607)
            | none => (match alt with
              | some c => .ok (.ite (.eq c l) off (addE off l)) (subE (orE len hi) l) (some (subE c l))
              | none => .split (atom pc (mkLe room l))))))) 608) 609) 610) 611) 612
def roomOf (d : IE) : Option IE → IE
  | none => d
  | some e => e
def winStr (roms : List (Nat × (Nat × List CK))) (pc : List BE) (h : SHeap) (nx : Nat) (l : LE) (lo hi : Option IE) : OR :=
  if typedB roms pc l then needO pc (mkLe (.lit 0) (orE (lenE pc l) hi)) (needO pc (mkLe (orE (lenE pc l) hi) (lenE pc l)) (needO pc (mkLe (.lit 0) (orE (.lit 0) lo)) (needO pc (mkLe (orE (.lit 0) lo) (orE (lenE pc l) hi))
    (.val (.lstr (winL l (lenE pc l) (orE (.lit 0) lo) (subE (orE (lenE pc l) hi) (orE (.lit 0) lo)))) h nx) 620) 621) 622) 623 else .fail 624
def opSliceL (T : Tab) (pc : List BE) (h : SHeap) (nx : Nat) (ti : TI) (x : SV) (lo hi mx : Option IE) : OR :=
  match ti.und, x with
  | .slice e, .rom r off len cap => (match T.ty.get e, lk T.orac.rom r with
    | some te, some (esz, _) => if Nat.beq te.size esz then (match sliceE pc (resI pc off) len (roomOf (subE (.len (.rom r)) (resI pc off)) cap) cap (some (subE (.rcap r) (resI pc off))) lo hi mx with
      | .ok o n c => .val (.rom r o n c) h nx
      | .split c => .split c
      | .fail n => .fail n) else .fail 630
    | _, _ => .fail 631)
  | .slice e, .sll n cn z off len cap => (match T.ty.get e, lk h n with
    | some te, some (.rowl _ tot _ _ dn zs) => if Nat.beq te.size z then (if Nat.beq zs z then (if Nat.beq dn cn then (match sliceE pc (resI pc off) len (roomOf (subE tot (resI pc off)) cap) cap none lo hi mx with
      | .ok o m c => .val (.sll n cn z o m c) h nx
      | .split c => .split c
      | .fail n => .fail n) else .fail 630) else .fail 630) else .fail 630
    | _, _ => .fail 631)
  | .str, .lstr l => (match mx with
    | none => winStr T.orac.rom pc h nx l lo hi
    | some _ => .fail 632)
  | .str, .str bs => (match mx with
    | none => if allK pc bs then winStr T.orac.rom pc h nx (strL bs) lo hi else .fail 633
    | some _ => .fail 632)
  | _, _ => .fail 634
def opSlice (T : Tab) (h : SHeap) (nx : Nat) (sl : Slots) (t : TypeId) (x : Operand) (lo hi mx : Option Operand) : OR :=
  match T.ty.get t with
  | some ti => (match ti.und, ev sl x with
    | .str, .str bs => (match mx with
      | none => (match three sl bs.length bs.length lo hi none with
        | some (l, u, _) => .val (.str ((bs.take u).drop l)) h nx
        | none => .fail 111)
      | some _ => .fail 112)
    | .slice e, .slice n off len cap => (match T.ty.get e with
      | some te => sliceOf h nx n off te.size (three sl len cap lo hi mx)
      | none => .fail 113)
    | .arr len e, .ptr n off => (match T.ty.get e with
      | some te => sliceOf h nx n off te.size (three sl len len lo hi mx)
      | none => .fail 113)
    | .slice e, .const (.slice none 0 0) => (match T.ty.get e, three sl 0 0 lo hi mx with
      | some _, some _ => .val (.const (.slice none 0 0)) h nx
      | _, _ => .fail 114)
    | .slice e, .sl n cn sz off len => (match T.ty.get e, lk h n with
      | some te, some (.row cs _ dn zs) => if Nat.beq te.size sz then (if Nat.beq zs sz then (if Nat.beq dn cn then (match mx with
        | none => (match litOr len sl hi, litOr 0 sl lo with
          | some u, some l => if Nat.ble l u then (if Nat.ble ((off + u) * sz) cs.length then (if Nat.beq l 0 then .val (.sl n cn sz (off + l) (u - l)) h nx else if Nat.beq u l then .fail 115 else .val (.sl n cn sz (off + l) (u - l)) h nx) else .fail 116) else .fail 117
          | _, _ => .fail 118)
        | some y => (match litN (ev sl y) with
          | some m => if Nat.ble ((off + m) * sz) cs.length then sliceOf h nx n (off * sz) sz (three sl len m lo hi (some y)) else .fail 119
          | none => .fail 120)) else .fail 121) else .fail 121) else .fail 121
      | _, _ => .fail 122)
    | _, _ => .fail 123)
  | none => .fail 124
def opSliceX (T : Tab) (pc : List BE) (h : SHeap) (nx : Nat) (sl : Slots) (t : TypeId) (x : Operand) (lo hi mx : Option Operand) : OR :=
  match opSlice T h nx sl t x lo hi mx with
  | .fail m => (match T.ty.get t, intE sl lo, intE sl hi, intE sl mx with
    | some ti, some l, some u, some m => opSliceL T pc h nx ti (ev sl x) l u m
    | _, _, _, _ => .fail m)
  | r => r
/-- A new row of as many noughts as a letter says. -/
def makeL (T : Tab) (pc : List BE) (h : SHeap) (nx : Nat) (e : TypeId) (te : TI) (l c : IE) : OR :=
  if l.beq c then (if Nat.ble te.bytes 1000000 then needO pc (mkLe (.lit 0) l) (needO pc (mkLe l (.lit 1000000)) (match kindsOf te.zero with
    | some ks => (match toAL T.orac.rom pc ks te.zero with
      | some a => if Nat.beq te.size 0 then .fail 640 else .val (.sll nx (nx + 1) te.size (.lit 0) l none) ((nx, .rowl (.rep a l) l ks e (nx + 1) te.size) :: h) (nx + 2)
      | none => .fail 641)
    | none => .fail 642) 643) 644 else .fail 645) else .fail 646
def opMakeSlice (T : Tab) (h : SHeap) (nx : Nat) (sl : Slots) (t : TypeId) (len cap : Operand) : OR :=
  match T.ty.get t with
  | some ti => (match ti.und with
    | .slice e => (match T.ty.get e, litN (ev sl len), litN (ev sl cap) with
      | some te, some l, some c => if Nat.ble l c then (if Nat.ble c 1000000 then (if Nat.ble te.bytes 1000000 then .val (.slice nx 0 l c) ((nx, .cells (reps te.zero c) e) :: h) (nx + 1) else .fail 130) else .fail 131) else .fail 132
      | _, _, _ => .fail 133)
    | _ => .fail 134)
  | none => .fail 135
def opMakeSliceX (T : Tab) (pc : List BE) (h : SHeap) (nx : Nat) (sl : Slots) (t : TypeId) (len cap : Operand) : OR :=
  match opMakeSlice T h nx sl t len cap with
  | .fail m => (match T.ty.get t, ev sl len, ev sl cap with
    | some ti, .int .i64 l, .int .i64 c => (match ti.und with
      | .slice e => (match T.ty.get e with
        | some te => makeL T pc h nx e te l c
        | none => .fail m)
      | _ => .fail m)
    | _, _, _ => .fail m)
  | r => r
def byteVals : List IE → List SV
  | [] => []
  | e :: l => .int .u8 e :: byteVals l
/-- What is appended, or copied. -/
def srcCells (pc : List BE) (h : SHeap) (size : Nat) : SV → Option (Nat × List SV)
  | .slice n off len _ => (match ocs h n with
    | some cs => if Nat.ble (off + len * size) cs.length then some (len, (cs.drop off).take (len * size)) else none
    | none => none)
  | .sl n _ sz off len => (match ocs h n with
    | some cs => if Nat.beq sz size then (if Nat.ble (off * sz + len * size) cs.length then some (len, (cs.drop (off * sz)).take (len * size)) else none) else none
    | none => none)
  | .const (.slice none 0 0) => some (0, [])
  | .str bs => if Nat.beq size 1 then (if allByte pc bs then some (bs.length, byteVals bs) else none) else none
  | _ => none
def rmH (n : Nat) : SHeap → SHeap
  | [] => []
  | (m, o) :: h => if Nat.beq m n then rmH n h else (m, o) :: rmH n h
def newRowS (h : SHeap) (nx : Nat) (cs : List SV) (e : TypeId) (sz len : Nat) : OR :=
  .val (.sl nx (nx + 1) sz 0 len) ((nx, .row cs e (nx + 1) sz) :: h) (nx + 2)
def appendTo (h : SHeap) (nx : Nat) (e : TypeId) (size k : Nat) (new : List SV) (s : SV) : OR :=
  match s with
  | .const (.slice none 0 0) => if Nat.beq k 0 then .val s h nx else newRowS h nx new e size k
  | .slice n off len cap => (match ocs h n, lk h n with
    | some cs, some o => if Nat.ble (len + k) cap then (if Nat.ble ((off + len * size) + new.length) cs.length then .val (.slice n off (len + k) cap) (up h n (o.put (puts cs (off + len * size) new))) nx else .fail 140)
      else (if Nat.ble (off + len * size) cs.length then (if Nat.ble len 1000000 then newRowS h nx ((cs.drop off).take (len * size) ++ new) e size (len + k) else .fail 141) else .fail 142)
    | _, _ => .fail 143)
  | .sl n cn sz off len => (match lk h n with
    | some (.row cs u dn zs) => if Nat.beq off 0 then (if Nat.beq zs sz then (if Nat.beq dn cn then (if Nat.beq sz size then (if Nat.ble (len * size) cs.length then (if Nat.ble len 1000000 then (if Nat.beq u e then
      (if Nat.beq k 0 then .val s h nx else if Nat.ble (len * size + new.length) cs.length then .val (.sl n cn sz 0 (len + k)) (up h n (.row (puts cs (len * size) new) u dn zs)) nx else newRowS (rmH n h) nx (cs.take (len * size) ++ new) e size (len + k)) else .fail 144) else .fail 144) else .fail 144) else .fail 145) else .fail 146) else .fail 146) else .fail 147
    | _ => .fail 148)
  | _ => .fail 149
def symAppend (T : Tab) (pc : List BE) (h : SHeap) (nx : Nat) (t u : TypeId) (s x : SV) : OR :=
  match T.ty.get t, T.ty.get u with
  | some ti, some tu => (match ti.und, tu.und with
    | .slice e, .slice _ => (match T.ty.get e with
      | some te => if Nat.ble te.bytes 1000000 then (match srcCells pc h te.size x with
        | some (k, new) => if Nat.ble k 1000000 then (if allOne new then (if Nat.beq te.size 0 then .fail 150 else if Nat.beq te.bytes 0 then .fail 150 else appendTo h nx e te.size k new s) else .fail 151) else .fail 152
        | none => .fail 153) else .fail 154
      | none => .fail 155)
    | .slice e, .str => (match T.ty.get e with
      | some te => if Nat.ble te.bytes 1000000 then (match srcCells pc h te.size x with
        | some (k, new) => if Nat.ble k 1000000 then (if allOne new then (if Nat.beq te.size 0 then .fail 150 else if Nat.beq te.bytes 0 then .fail 150 else appendTo h nx e te.size k new s) else .fail 151) else .fail 152
        | none => .fail 153) else .fail 154
      | none => .fail 155)
    | _, _ => .fail 156)
  | _, _ => .fail 157
def copyTo (h : SHeap) (nx n off k : Nat) (new : List SV) : OR :=
  match lk h n with
  | some o => (match o.cs with
    | some cs => if Nat.ble (off + new.length) cs.length then .val (.int .i64 (.lit (k : Nat))) (up h n (o.put (puts cs off new))) nx else .fail 160
    | none => .fail 161)
  | none => .fail 161
def symCopy (T : Tab) (pc : List BE) (h : SHeap) (nx : Nat) (t : TypeId) (s x : SV) : OR :=
  match T.ty.get t with
  | some ti => (match ti.und with
    | .slice e => (match T.ty.get e with
      | some te => (match srcCells pc h te.size x with
        | some (k, new) => if allOne new then (match s with
          | .slice n off len _ => copyTo h nx n off (Nat.min k len) (new.take (Nat.min k len * te.size))
          | .sl n _ sz off len => if Nat.beq sz te.size then copyTo h nx n (off * sz) (Nat.min k len) (new.take (Nat.min k len * te.size)) else .fail 162
          | .const (.slice none 0 0) => .val (.int .i64 (.lit 0)) h nx
          | _ => .fail 163) else .fail 164
        | none => .fail 165)
      | none => .fail 166)
    | _ => .fail 167)
  | none => .fail 168
def clearAt (h : SHeap) (nx n off : Nat) (vs : List SV) : OR :=
  match lk h n with
  | some o => (match o.cs with
    | some cs => if Nat.ble (off + vs.length) cs.length then (if allOne vs then .val (.tup []) (up h n (o.put (puts cs off vs))) nx else .fail 170) else .fail 171
    | none => .fail 172)
  | none => .fail 173
def symClear (T : Tab) (h : SHeap) (nx : Nat) (t : TypeId) (s : SV) : OR :=
  match T.ty.get t with
  | some ti => (match ti.und with
    | .slice e => (match T.ty.get e with
      | some te => (match s with
        | .slice n off len _ => if Nat.beq len 0 then .val (.tup []) h nx else clearAt h nx n off (reps te.zero len)
        | .sl n _ sz off len => if Nat.beq len 0 then .val (.tup []) h nx else clearAt h nx n (off * sz) (reps te.zero len)
        | .const (.slice none 0 0) => .val (.tup []) h nx
        | _ => .fail 174)
      | none => .fail 175)
    | _ => .fail 176)
  | none => .fail 177
/- interfaces -/
def plainST : ST → Bool
  | .iface => false
  | .other => false
  | _ => true
def opMakeI (T : Tab) (h : SHeap) (nx : Nat) (sl : Slots) (t : TypeId) (x : Operand) : OR :=
  match T.ty.get t with
  | some ti => if plainST ti.und then .val (.iface t (ev sl x)) h nx else .fail 170
  | none => .fail 171
def zeroS (ti : TI) : Option SV :=
  if ti.agg then some (.agg ti.zero) else (match ti.zero with
    | [v] => some v
    | _ => none)
def opAssert (T : Tab) (h : SHeap) (nx : Nat) (sl : Slots) (x : Operand) (a : TypeId) (ok : Bool) : OR :=
  match T.ty.get a with
  | some ti => if plainST ti.und then (match ev sl x with
    | .iface t v => if Nat.beq t a then .val (if ok then .tup [v, .bool (.lit true)] else v) h nx else (if ok then (match zeroS ti with
      | some z => .val (.tup [z, .bool (.lit false)]) h nx
      | none => .fail 172) else .fail 173)
    | .const .nilIface => if ok then (match zeroS ti with
      | some z => .val (.tup [z, .bool (.lit false)]) h nx
      | none => .fail 172) else .fail 173
    | _ => .fail 174) else .fail 175
  | none => .fail 176
/- rows of a length that is a letter -/
def lenLs (T : Tab) (pc : List BE) (h : SHeap) (nx : Nat) (t : TypeId) (len : IE) : OR :=
  match T.ty.get t with
  | some ti => (match ti.und with
    | .slice _ => needO pc (mkLe (.lit 0) len) (.val (.int .i64 len) h nx) 89
    | _ => .fail 90)
  | none => .fail 90
def lenStr (T : Tab) (pc : List BE) (h : SHeap) (nx : Nat) (t : TypeId) (l : LE) : OR :=
  match T.ty.get t with
  | some ti => (match ti.und with
    | .str => .val (.int .i64 (lenE pc l)) h nx
    | _ => .fail 90)
  | none => .fail 90
def isL : SV → Bool
  | .rom _ _ _ _ => true
  | .sll _ _ _ _ _ _ => true
  | .lstr _ => true
  | _ => false
/-- What is there to read: how many, which, of which kinds (none: there are none). -/
structure LSrc where
  len : IE
  l : LE
  ks : Option (List CK)
def srcRom (roms : List (Nat × (Nat × List CK))) (pc : List BE) (sz r : Nat) (off len : IE) : Option LSrc :=
  match lk roms r with
  | some (esz, ks) => if Nat.beq esz sz then (match dec pc (mkLe (.lit 0) off), dec pc (mkLe (.lit 0) len), dec pc (mkLe (addE off len) (.len (.rom r))) with
    | some true, some true, some true => some ⟨len, winL (.rom r) (.len (.rom r)) off len, some ks⟩
    | _, _, _ => none) else none
  | none => none
def srcRow (pc : List BE) (h : SHeap) (sz n cn z : Nat) (off len : IE) : Option LSrc :=
  match lk h n with
  | some (.rowl c tot ks _ dn zs) => if Nat.beq dn cn then (if Nat.beq zs z then (if Nat.beq zs sz then (match dec pc (mkLe (.lit 0) off), dec pc (mkLe (.lit 0) len), dec pc (mkLe (addE off len) tot) with
    | some true, some true, some true => some ⟨len, winL c tot off len, some ks⟩
    | _, _, _ => none) else none) else none) else none
  | _ => none
def srcL (roms : List (Nat × (Nat × List CK))) (pc : List BE) (h : SHeap) (sz : Nat) (x : SV) : Option LSrc :=
  match x with
  | .rom r off len _ => srcRom roms pc sz r (resI pc off) len
  | .sll n cn z off len _ => srcRow pc h sz n cn z (resI pc off) len
  | .lstr l => if Nat.beq sz 1 then (if typedB roms pc l then some ⟨lenE pc l, l, some byteK⟩ else none) else none
  | .const (.slice none 0 0) => some ⟨.lit 0, .nil, none⟩
  | x => (match srcCells pc h sz x with
    | some (k, cs) => (match k with
      | 0 => some ⟨.lit 0, .nil, none⟩
      | k => (match kindsOf (cs.take sz) with
        | some ks => (match rowsL roms pc ks sz k cs with
          | some l => some ⟨.lit (k : Nat), l, some ks⟩
          | none => none)
        | none => none))
    | none => none)
def ksTwo : Option (List CK) → Option (List CK) → Option (List CK)
  | none, some b => some b
  | some a, none => some a
  | some a, some b => if ksEq a b then some a else none
  | none, none => none
def newRowL (h : SHeap) (nx : Nat) (c : LE) (tot : IE) (ks : List CK) (e : TypeId) (sz : Nat) (len : IE) : OR :=
  .val (.sll nx (nx + 1) sz (.lit 0) len none) ((nx, .rowl c tot ks e (nx + 1) sz) :: h) (nx + 2)
def splitO (pc : List BE) (c : BE) (t f : OR) : OR :=
  match dec pc c with
  | some true => t
  | some false => f
  | none => .split (atom pc c)
/-- What was there and what is appended, in a new row. -/
def growL (pc : List BE) (h : SHeap) (nx : Nat) (e : TypeId) (sz : Nat) (o s : LSrc) : OR :=
  match ksTwo o.ks s.ks with
  | some ks => if Nat.beq ks.length sz then (match dec pc (mkLe (addE o.len s.len) (.lit 1000000)) with
    | some true => newRowL h nx (catE o.l s.l) (addE o.len s.len) ks e sz (addE o.len s.len)
    | _ => .fail 540) else .fail 541
  | none => .fail 542
/-- Where there is no room left for what is appended. -/
def growS (roms : List (Nat × (Nat × List CK))) (pc : List BE) (h : SHeap) (nx : Nat) (e : TypeId) (sz : Nat) (s : SV) (len cap : IE) (x : LSrc) : OR :=
  match dec pc (mkLe (.lit 0) len), dec pc (mkLe (.lit 0) cap), dec pc (mkLe len cap) with
  | some true, some true, some true => splitO pc (mkLe x.len (.lit 0)) (.val s h nx) (match dec pc (mkLe (addE len x.len) cap) with
    | some false => (match srcL roms pc h sz s with
      | some o => if o.len.beq len then growL pc h nx e sz o x else .fail 545
      | none => .fail 545)
    | _ => .fail 546)
  | _, _, _ => .fail 547
def inPlace (pc : List BE) (h : SHeap) (nx n cn z : Nat) (c : LE) (tot : IE) (ks : List CK) (u dn zs : Nat) (len : IE) (x : LSrc) : OR :=
  .val (.sll n cn z (.lit 0) (addE len x.len) none) (up h n (.rowl (catE (catE (winL c tot (.lit 0) len) x.l) (winL c tot (addE len x.len) (subE tot (addE len x.len)))) tot ks u dn zs)) nx
def ksFits (ks : List CK) : Option (List CK) → Bool
  | some k => ksEq ks k
  | none => true
def appendL (roms : List (Nat × (Nat × List CK))) (pc : List BE) (h : SHeap) (nx : Nat) (e : TypeId) (sz : Nat) (s : SV) (x : LSrc) : OR :=
  match s with
  | .const (.slice none 0 0) => splitO pc (mkLe x.len (.lit 0)) (.val s h nx) (growL pc h nx e sz ⟨.lit 0, .nil, none⟩ x)
  | .slice n off len cap => growS roms pc h nx e sz s (.lit (len : Nat)) (.lit (cap : Nat)) x
  | .rom r off len (some c) => growS roms pc h nx e sz s len c x
  | .sll n cn z off len (some c) => growS roms pc h nx e sz s len c x
  | .sll n cn z (.lit (.ofNat 0)) len none => (match lk h n with
    | some (.rowl c tot ks u dn zs) => if Nat.beq zs z then (if Nat.beq z sz then (if Nat.beq dn cn then (if Nat.beq u e then (if ksFits ks x.ks then
      needO pc (mkLe (.lit 0) len) (needO pc (mkLe len tot) (splitO pc (mkLe (addE len x.len) tot)
        (inPlace pc h nx n cn z c tot ks u dn zs len x)
        (growL pc (rmH n h) nx e sz ⟨len, winL c tot (.lit 0) len, some ks⟩ x)) 550) 551 else .fail 552) else .fail 553) else .fail 554) else .fail 555) else .fail 556
    | _ => .fail 557)
  | .sl n cn z 0 len => (match lk h n with
    | some (.row cs u dn zs) => if Nat.beq zs z then (if Nat.beq z sz then (if Nat.beq dn cn then (if Nat.beq u e then (if Nat.beq cs.length (len * sz) then (match srcL roms pc h sz s with
      | some o => if o.len.beq (.lit (len : Nat)) then growL pc (rmH n h) nx e sz o x else .fail 561
      | none => .fail 561) else .fail 562) else .fail 562) else .fail 562) else .fail 562) else .fail 562
    | _ => .fail 563)
  | _ => .fail 564
def rowTy : ST → Bool
  | .slice _ => true
  | .str => true
  | _ => false
def symAppendL (T : Tab) (pc : List BE) (h : SHeap) (nx : Nat) (t u : TypeId) (s x : SV) : OR :=
  match T.ty.get t, T.ty.get u with
  | some ti, some tu => (match ti.und with
    | .slice e => (match T.ty.get e with
      | some te => if rowTy tu.und then (if Nat.ble te.bytes 1000000 then (if Nat.beq te.size 0 then .fail 150 else if Nat.beq te.bytes 0 then .fail 150 else (match srcL T.orac.rom pc h te.size x with
        | some src => appendL T.orac.rom pc h nx e te.size s src
        | none => .fail 565)) else .fail 566) else .fail 567
      | none => .fail 568)
    | _ => .fail 569)
  | _, _ => .fail 570
def symCopyL (T : Tab) (pc : List BE) (h : SHeap) (nx : Nat) (t : TypeId) (s x : SV) : OR :=
  match T.ty.get t, s with
  | some ti, .sll n _ z off len _ => (match ti.und with
    | .slice e => (match T.ty.get e, lk h n with
      | some te, some (.rowl c tot ks u dn zs) => if Nat.beq zs z then (if Nat.beq z te.size then (match srcL T.orac.rom pc h te.size x with
        | some src => if ksFits ks src.ks then needO pc (mkLe (.lit 0) (resI pc off)) (needO pc (mkLe (addE (resI pc off) len) tot) (needO pc (mkLe (.lit 0) len) (splitO pc (mkLe src.len len)
            (.val (.int .i64 src.len) (up h n (.rowl (catE (catE (winL c tot (.lit 0) (resI pc off)) src.l) (winL c tot (addE (resI pc off) src.len) (subE tot (addE (resI pc off) src.len)))) tot ks u dn zs)) nx)
            (.val (.int .i64 len) (up h n (.rowl (catE (catE (winL c tot (.lit 0) (resI pc off)) (.take src.l len)) (winL c tot (addE (resI pc off) len) (subE tot (addE (resI pc off) len)))) tot ks u dn zs)) nx)) 580) 581) 582 else .fail 583
        | none => .fail 584) else .fail 585) else .fail 586
      | _, _ => .fail 587)
    | _ => .fail 588)
  | _, _ => .fail 589
def symClearL (T : Tab) (pc : List BE) (h : SHeap) (nx : Nat) (t : TypeId) (s : SV) : OR :=
  match T.ty.get t, s with
  | some ti, .sll n _ z off len _ => (match ti.und with
    | .slice e => (match T.ty.get e, lk h n with
      | some te, some (.rowl c tot ks u dn zs) => if Nat.beq zs z then (if Nat.beq z te.size then (match toAL T.orac.rom pc ks te.zero with
        | some a => needO pc (mkLe (.lit 0) (resI pc off)) (needO pc (mkLe (addE (resI pc off) len) tot) (needO pc (mkLe (.lit 0) len)
            (.val (.tup []) (up h n (.rowl (catE (catE (winL c tot (.lit 0) (resI pc off)) (.rep a len)) (winL c tot (addE (resI pc off) len) (subE tot (addE (resI pc off) len)))) tot ks u dn zs)) nx) 580) 581) 582
        | none => .fail 584) else .fail 585) else .fail 586
      | _, _ => .fail 587)
    | _ => .fail 588)
  | _, _ => .fail 589
/- strings and bytes -/
def bytesIn (pc : List BE) : List SV → Option (List IE)
  | [] => some []
  | .int .u8 e :: l => if inByte pc e then (match bytesIn pc l with
    | some es => some (e :: es)
    | none => none) else none
  | _ => none
def isSl : SV → Bool
  | .rom _ _ _ _ => true
  | .sll _ _ _ _ _ _ => true
  | _ => false
def strL1 (roms : List (Nat × (Nat × List CK))) (pc : List BE) (h : SHeap) (nx : Nat) (x : SV) : OR :=
  if isSl x then (match srcL roms pc h 1 x with
  | some ⟨len, l, some ks⟩ => if isByteK ks then .val (.lstr l) h nx else .fail 650
  | _ => .fail 651) else .fail 654
def bytesL1 (roms : List (Nat × (Nat × List CK))) (pc : List BE) (h : SHeap) (nx : Nat) (e : TypeId) (l : LE) : OR :=
  if typedB roms pc l then needO pc (mkLe (lenE pc l) (.lit 1000000)) (newRowL h nx l (lenE pc l) byteK e 1 (lenE pc l)) 652 else .fail 653
def strOf (pc : List BE) (h : SHeap) (nx : Nat) (x : SV) : OR :=
  match x with
  | .const (.slice none 0 0) => .val (.str []) h nx
  | .str _ => .fail 180
  | x => (match srcCells pc h 1 x with
    | some (_, cs) => (match bytesIn pc cs with
      | some es => .val (.str es) h nx
      | none => .fail 181)
    | none => .fail 182)
def bytesS (pc : List BE) (h : SHeap) (nx : Nat) (e : TypeId) (bs : List IE) : OR :=
  if Nat.ble bs.length 1000000 then (if allByte pc bs then newRowS h nx (byteVals bs) e 1 bs.length else .fail 183) else .fail 184
def isNilS : SV → Bool
  | .const (.slice none 0 0) => true
  | _ => false
/-- Numbers and tests alone; whether one of them is a letter. -/
def plainCs : List SV → Bool
  | [] => true
  | .int _ _ :: l => plainCs l
  | .bool _ :: l => plainCs l
  | _ => false
def someLet : List SV → Bool
  | [] => false
  | .int _ (.lit _) :: l => someLet l
  | .bool (.lit _) :: l => someLet l
  | _ => true
def flatOn : List BE → Bool
  | [] => false
  | .not (.lit false) :: _ => true
  | _ :: pc => flatOn pc
/-- Whether what is appended to nothing becomes a row of letters. -/
def newL (pc : List BE) (h : SHeap) (x y : SV) : Bool :=
  if isNilS x then (match y with
    | .slice n _ _ _ => (match ocs h n with
      | some cs => if plainCs cs then (if someLet cs then (if fmOn pc then (if flatOn pc then false else true) else false) else false) else false
      | none => false)
    | _ => false) else false
def symCall (T : Tab) (pc : List BE) (h : SHeap) (nx : Nat) (sl : Slots) (c : Call) : OR :=
  match c.callee with
  | .builtin b => (match b, c.argTypes.toList, c.args.toList with
    | .len, t :: _, x :: _ => (match ev sl x with
      | .rom _ _ len _ => lenLs T pc h nx t len
      | .sll _ _ _ _ len _ => lenLs T pc h nx t len
      | .lstr l => lenStr T pc h nx t l
      | x => (match symLen T t x with
        | some v => .val v h nx
        | none => .fail 90))
    | .cap, t :: _, x :: _ => (match ev sl x with
      | .rom _ _ _ (some e) => lenLs T pc h nx t e
      | .sll _ _ _ _ _ (some e) => lenLs T pc h nx t e
      | x => (match symCap T t x with
        | some v => .val v h nx
        | none => .fail 95))
    | .min, _, x :: l => (match foldM2 (min2S pc) (ev sl x) (l.map (ev sl)) with
      | .ok v => .val v h nx
      | .split c => .split c
      | .fail n => .fail n)
    | .max, _, x :: l => (match foldM2 (max2S pc) (ev sl x) (l.map (ev sl)) with
      | .ok v => .val v h nx
      | .split c => .split c
      | .fail n => .fail n)
    | .append, t :: u :: _, x :: y :: _ => if isL (ev sl x) then symAppendL T pc h nx t u (ev sl x) (ev sl y) else if isL (ev sl y) then symAppendL T pc h nx t u (ev sl x) (ev sl y) else if newL pc h (ev sl x) (ev sl y) then symAppendL T pc h nx t u (ev sl x) (ev sl y) else symAppend T pc h nx t u (ev sl x) (ev sl y)
    | .copy, t :: _ :: _, x :: y :: _ => if isL (ev sl x) then symCopyL T pc h nx t (ev sl x) (ev sl y) else symCopy T pc h nx t (ev sl x) (ev sl y)
    | .clear, t :: _, x :: _ => if isL (ev sl x) then symClearL T pc h nx t (ev sl x) else symClear T h nx t (ev sl x)
    | _, _, _ => .fail 91)
  | .invoke _ _ => .fail 92
  | .value f => (match ev sl f with
    | .func (.func g) first captured => .enter g (first ++ c.args.toList.map (ev sl) ++ captured)
    | .func (.yield l) [] _ => .round l (c.args.toList.map (ev sl))
    | _ => .fail 93)
def opPick (pc : List BE) (h : SHeap) (nx : Nat) (sl : Slots) (c a b : Operand) : OR :=
  match ev sl c with
  | .bool t => (match dec pc t with
    | some true => .val (ev sl a) h nx
    | some false => .val (ev sl b) h nx
    | none => .split (atom pc t))
  | _ => .fail 1
def opAlloc (T : Tab) (h : SHeap) (nx : Nat) (t : TypeId) : OR :=
  match T.ty.get t with
  | some ti => newCells h nx ti.zero t
  | none => .fail 2
def opBox (h : SHeap) (nx : Nat) (sl : Slots) (t : TypeId) (x : Operand) : OR :=
  match (ev sl x).cells with
  | some cs => newCells h nx cs t
  | none => .fail 3
/-- What a package's variable holds. -/
def loadG (T : Tab) (h : SHeap) (nx : Nat) (t : TypeId) (g off : Nat) : OR :=
  match T.ty.get t, lk T.orac.F.g g with
  | some ti, some cs => pickCs ti off h nx (cs.map ofScalar)
  | _, _ => .fail 42
def opLoad (T : Tab) (pc : List BE) (h : SHeap) (nx : Nat) (sl : Slots) (t : TypeId) (a : Operand) : OR :=
  match ev sl a with
  | .ptr n off => loadAt T h nx t n off
  | .rptr r i c => loadRom T pc h nx t r i c
  | .lptr n z i c => loadL T pc h nx t n z i c
  | .const (.pointer (some ⟨g, off, none⟩)) => loadG T h nx t g off
  | _ => .fail 4
def opStore (T : Tab) (pc : List BE) (h : SHeap) (nx : Nat) (sl : Slots) (t : TypeId) (a x : Operand) : OR :=
  match ev sl a with
  | .ptr n off => storeAt T h nx t n off (ev sl x)
  | .lptr n z i c => storeL T pc h nx t n z i c (ev sl x)
  | _ => .fail 5
def opNil (h : SHeap) (nx : Nat) (sl : Slots) (x : Operand) : OR :=
  match ev sl x with
  | .ptr n off => .val (.ptr n off) h nx
  | .rptr r i c => .val (.rptr r i c) h nx
  | .lptr n z i c => .val (.lptr n z i c) h nx
  | .func (.func f) a b => .val (.func (.func f) a b) h nx
  | _ => .fail 6
def opBin (T : Tab) (pc : List BE) (h : SHeap) (nx : Nat) (sl : Slots) (op : BinOp) (xt : TypeId) (x y : Operand) : OR :=
  match symBin T pc op xt (ev sl x) (ev sl y) with
  | .ok v => fSV v fun v => .val v h nx
  | .split c => .split (atom pc c)
  | .fail n => .fail n
def opUn (pc : List BE) (h : SHeap) (nx : Nat) (sl : Slots) (op : UnOp) (x : Operand) : OR :=
  match symUn op pc (ev sl x) with
  | some v => fSV v fun v => .val v h nx
  | none => .fail 7
/-- A row of bytes of a constant text: its run-time's mark; it goes on under a new name. -/
def convSame (h : SHeap) (nx : Nat) (x : SV) : OR :=
  match x with
  | .slice n off len cap => (match lk h n with
    | some (.cells cs u) => if Nat.beq off 0 then (if Nat.beq cap cs.length then (if Nat.ble cap 1000000 then newRowS (rmH n h) nx cs u 1 len else .fail 196) else .fail 196) else .fail 196
    | _ => .fail 196)
  | _ => .fail 196
def opConvI (T : Tab) (pc : List BE) (h : SHeap) (nx : Nat) (sl : Slots) (src dst : TypeId) (x : Operand) : OR :=
  match symConv T pc src dst (ev sl x) with
  | some v => fSV v fun v => .val v h nx
  | none => .fail 8
def opConv (T : Tab) (pc : List BE) (h : SHeap) (nx : Nat) (sl : Slots) (src dst : TypeId) (x : Operand) : OR :=
  match T.ty.get src, T.ty.get dst with
  | some ts, some td => (match ts.und, td.und with
    | .str, .str => (match ev sl x with
      | .str bs => .val (.str bs) h nx
      | _ => .fail 190)
    | .str, .slice e => (match T.ty.get e, ev sl x with
      | some te, .str bs => (match te.und with
        | .int .u8 => bytesS pc h nx e bs
        | _ => .fail 191)
      | _, _ => .fail 192)
    | .slice e, .str => (match T.ty.get e with
      | some te => (match te.und with
        | .int .u8 => strOf pc h nx (ev sl x)
        | _ => .fail 193)
      | none => .fail 194)
    | .slice e, .slice _ => if Nat.beq src dst then (match T.ty.get e with
      | some te => (match te.und with
        | .int .u8 => convSame h nx (ev sl x)
        | _ => .fail 197)
      | none => .fail 197) else .fail 197
    | _, _ => opConvI T pc h nx sl src dst x)
  | _, _ => .fail 195
def convL (T : Tab) (pc : List BE) (h : SHeap) (nx : Nat) (src dst : TypeId) (x : SV) : OR :=
  match T.ty.get src, T.ty.get dst with
  | some ts, some td => (match ts.und, td.und, x with
    | .str, .str, .lstr l => .val (.lstr l) h nx
    | .str, .slice e, .lstr l => (match T.ty.get e with
      | some te => (match te.und with
        | .int .u8 => bytesL1 T.orac.rom pc h nx e l
        | _ => .fail 191)
      | none => .fail 192)
    | .slice e, .str, x => (match T.ty.get e with
      | some te => (match te.und with
        | .int .u8 => strL1 T.orac.rom pc h nx x
        | _ => .fail 193)
      | none => .fail 194)
    | _, _, _ => .fail 195)
  | _, _ => .fail 195
def opConvX (T : Tab) (pc : List BE) (h : SHeap) (nx : Nat) (sl : Slots) (src dst : TypeId) (x : Operand) : OR :=
  match opConv T pc h nx sl src dst x with
  | .fail m => convL T pc h nx src dst (ev sl x)
  | r => r
def opExtract (h : SHeap) (nx : Nat) (sl : Slots) (t : Operand) (i : Nat) : OR :=
  match ev sl t with
  | .tup vs => (match nth vs i with
    | some v => .val v h nx
    | none => .fail 9)
  | _ => .fail 10
def opFunc (h : SHeap) (nx : Nat) (sl : Slots) (fn : Fn) (first captured : Array Operand) : OR :=
  match fn with
  | .yield _ => .fail 94
  | fn => .val (.func fn (first.toList.map (ev sl)) (captured.toList.map (ev sl))) h nx
def opBuild (T : Tab) (h : SHeap) (nx : Nat) (sl : Slots) (t : TypeId) (parts : Array (Nat × Operand)) : OR :=
  symBuild T h nx t (parts.toList.map fun p => (p.1, ev sl p.2))
def opBuildSlice (T : Tab) (h : SHeap) (nx : Nat) (sl : Slots) (t : TypeId) (len : Nat) (parts : Array (Nat × Operand)) : OR :=
  symBuildSlice T h nx t len (parts.toList.map fun p => (p.1, ev sl p.2))
def opMove (h : SHeap) (nx : Nat) (sl : Slots) (x : Operand) : OR := .val (ev sl x) h nx
def opFA (T : Tab) (h : SHeap) (nx : Nat) (sl : Slots) (s : TypeId) (x : Operand) (f : Nat) : OR := symFieldAddr T h nx s (ev sl x) f
def opF (T : Tab) (h : SHeap) (nx : Nat) (sl : Slots) (s : TypeId) (x : Operand) (f : Nat) : OR := symField T h nx s (ev sl x) f
def opIA (T : Tab) (pc : List BE) (h : SHeap) (nx : Nat) (sl : Slots) (t : TypeId) (x i : Operand) : OR := symIndexAddr T pc h nx t (ev sl x) (ev sl i)
def opI (T : Tab) (pc : List BE) (h : SHeap) (nx : Nat) (sl : Slots) (t : TypeId) (x i : Operand) : OR := symIndex T pc h nx t (ev sl x) (ev sl i)
def symOp (T : Tab) (pc : List BE) (h : SHeap) (nx : Nat) (sl : Slots) (o : Oper) : OR :=
  match o.op with
  | .move x => opMove h nx sl x
  | .assign x => opMove h nx sl x
  | .pick c a b => opPick pc h nx sl c a b
  | .alloc t => opAlloc T h nx t
  | .box t x => opBox h nx sl t x
  | .build t parts => opBuild T h nx sl t parts
  | .buildSlice t len parts => opBuildSlice T h nx sl t len parts
  | .load t a => opLoad T pc h nx sl t a
  | .store t a x => opStore T pc h nx sl t a x
  | .nilCheck x => opNil h nx sl x
  | .binOp op xt x y _ => opBin T pc h nx sl op xt x y
  | .unOp op _ x => opUn pc h nx sl op x
  | .convert src dst x => opConvX T pc h nx sl src dst x
  | .makeFunc fn first captured => opFunc h nx sl fn first captured
  | .fieldAddr s x f => opFA T h nx sl s x f
  | .field s x f => opF T h nx sl s x f
  | .indexAddr t x i => opIA T pc h nx sl t x i
  | .index t x i => opI T pc h nx sl t x i
  | .extract t i => opExtract h nx sl t i
  | .call c => symCall T pc h nx sl c
  | .slice t x lo hi mx => opSliceX T pc h nx sl t x lo hi mx
  | .makeSlice t l c => opMakeSliceX T pc h nx sl t l c
  | .makeInterface t x => opMakeI T h nx sl t x
  | .typeAssert x _ a ok => opAssert T h nx sl x a ok
  | _ => .fail 99
end
end Go.Proofs.Ytjgkaimgocnkmab.Sx
