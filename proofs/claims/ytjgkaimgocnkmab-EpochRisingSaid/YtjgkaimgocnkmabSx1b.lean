/- A reckoner of Go's small steps over letters: rows of a length that is a letter. No condition. -/
import Derived.Test.YtjgkaimgocnkmabSx1
set_option linter.unusedVariables false
set_option linter.unusedSimpArgs false
namespace Go.Proofs.Ytjgkaimgocnkmab.Sx
open Go
noncomputable section

def oddN (n : Nat) : Bool := Nat.beq (Nat.mod n 2) 1
def ckeq : CK → CK → Bool
  | .int k, .int j => keq k j
  | .bool, .bool => true
  | .str, .str => true
  | .any, .any => true
  | _, _ => false
def ksEq : List CK → List CK → Bool
  | [], [] => true
  | a :: l, b :: m => if ckeq a b then ksEq l m else false
  | _, _ => false
def byteK : List CK := [.int .u8]
def isByteK : List CK → Bool
  | [.int .u8] => true
  | _ => false
/- sums, folded -/
def addE : IE → IE → IE
  | .lit a, .lit b => fint (a + b) .lit
  | .lit (.ofNat 0), y => y
  | x, .lit (.ofNat 0) => x
  | .add x (.lit a), .lit b => fint (a + b) fun c => if ieqb c 0 then x else .add x (.lit c)
  | x, y => .add x y
def subE : IE → IE → IE
  | .lit a, .lit b => fint (a - b) .lit
  | x, .lit (.ofNat 0) => x
  | .add x (.lit a), .lit b => fint (a - b) fun c => if ieqb c 0 then x else .add x (.lit c)
  | .add x y, z => if y.beq z then x else (if x.beq z then y else (if (IE.add x y).beq z then .lit 0 else .sub (.add x y) z))
  | x, y => if x.beq y then .lit 0 else .sub x y
/-- An integer whose choices are made. -/
def resI (pc : List BE) : IE → IE
  | .ite c x y => (match dec pc c with
    | some true => resI pc x
    | some false => resI pc y
    | none => .ite c x y)
  | .add x y => addE (resI pc x) (resI pc y)
  | e => e
/-- How long a row is. -/
def lenE (pc : List BE) : LE → IE
  | .nil => .lit 0
  | .one _ => .lit 1
  | .cat a b => addE (lenE pc a) (lenE pc b)
  | .set a _ _ => lenE pc a
  | .rep c n => (match dec pc (mkLe (.lit 0) n) with
    | some true => n
    | _ => .len (.rep c n))
  | .take a k => (match dec pc (mkLe (.lit 0) k) with
    | some true => (match dec pc (mkLe k (lenE pc a)) with
      | some true => k
      | _ => .len (.take a k))
    | _ => .len (.take a k))
  | .drop a k => (match dec pc (mkLe (.lit 0) k) with
    | some true => (match dec pc (mkLe k (lenE pc a)) with
      | some true => subE (lenE pc a) k
      | _ => .len (.drop a k))
    | _ => .len (.drop a k))
  | l => .len l
/- elements -/
inductive ER where
  | el (cs : List SV)
  | split (c : BE)
  | fail (n : Nat)
def alCells : AL → List SV
  | .nil => []
  | .int k e r => .int k e :: alCells r
  | .bool b r => .bool b :: alCells r
  | .lst l r => .lstr l :: alCells r
  | .cel l i j r => .cel l i j :: alCells r
def atomsAt (l : LE) (i : IE) : List CK → Nat → List SV
  | [], _ => []
  | .int k :: ks, j => .int k (.cel k l i j) :: atomsAt l i ks (j + 1)
  | .bool :: ks, j => .bool (.cel l i j) :: atomsAt l i ks (j + 1)
  | .str :: ks, j => .lstr (.str l i j) :: atomsAt l i ks (j + 1)
  | .any :: ks, j => .cel l i j :: atomsAt l i ks (j + 1)
def orB (a b : Option Bool) : Option Bool := match a with
  | some x => some x
  | none => b
/-- The element of a row at a place that it has. -/
def elemAt (pc : List BE) (ks : List CK) : LE → IE → ER
  | .cat a b, i => (match dec pc (mkLe (lenE pc a) i) with
    | some true => elemAt pc ks b (subE i (lenE pc a))
    | some false => elemAt pc ks a i
    | none => .split (atom pc (mkLe (lenE pc a) i)))
  | .one c, _ => .el (alCells c)
  | .set a j c, i => if i.beq j then (match dec pc (mkLe (lenE pc a) i) with
      | some false => .el (alCells c)
      | _ => .fail 501) else (match dec pc (mkLe (.lit 0) j) with
    | some true => (match dec pc (mkEq i j) with
      | some true => (match dec pc (mkLe (lenE pc a) i) with
        | some false => .el (alCells c)
        | _ => .fail 501)
      | some false => elemAt pc ks a i
      | none => .split (atom pc (mkEq i j)))
    | _ => .fail 502)
  | .take a _, i => elemAt pc ks a i
  | .drop a k, i => (match dec pc (mkLe (.lit 0) k) with
    | some true => elemAt pc ks a (addE i k)
    | _ => .fail 503)
  | .rep c _, _ => .el (alCells c)
  | l, i => .el (atomsAt l i ks 0)
/- whether things are of a kind -/
def inK (pc : List BE) (k : IntKind) (e : IE) : Bool :=
  if oin k (rng pc e) then true else (match dec pc (mkLe (.lit (kmin k)) e) with
    | some true => (match dec pc (mkLe e (.lit (kmax k))) with
      | some true => true
      | _ => false)
    | _ => false)
/-- Whether a row is one of bytes. -/
def typedB (roms : List (Nat × (Nat × List CK))) (pc : List BE) : LE → Bool
  | .nil => true
  | .var n => oddN n
  | .rom r => (match lk roms r with
    | some (_, ks) => isByteK ks
    | none => false)
  | .cat a b => if typedB roms pc a then typedB roms pc b else false
  | .one (.int .u8 e .nil) => inK pc .u8 e
  | .set a _ (.int .u8 e .nil) => if inK pc .u8 e then typedB roms pc a else false
  | .take a _ => typedB roms pc a
  | .drop a _ => typedB roms pc a
  | .rep (.int .u8 e .nil) _ => inK pc .u8 e
  | .str _ _ _ => true
  | .fn n _ => oddN n
  | _ => false
def strL : List IE → LE
  | [] => .nil
  | e :: l => (match l with
    | [] => .one (.int .u8 e .nil)
    | l => .cat (.one (.int .u8 e .nil)) (strL l))
def allK (pc : List BE) : List IE → Bool
  | [] => true
  | e :: l => if inK pc .u8 e then allK pc l else false
/-- Cells as an element of a row of these kinds. -/
def toAL (roms : List (Nat × (Nat × List CK))) (pc : List BE) : List CK → List SV → Option AL
  | [], [] => some .nil
  | .int k :: ks, .int j e :: vs => if keq k j then (if inK pc k e then (match toAL roms pc ks vs with
    | some r => some (.int k e r)
    | none => none) else none) else none
  | .bool :: ks, .bool b :: vs => (match toAL roms pc ks vs with
    | some r => some (.bool b r)
    | none => none)
  | .str :: ks, .lstr l :: vs => if typedB roms pc l then (match toAL roms pc ks vs with
    | some r => some (.lst l r)
    | none => none) else none
  | .str :: ks, .str bs :: vs => if allK pc bs then (match toAL roms pc ks vs with
    | some r => some (.lst (strL bs) r)
    | none => none) else none
  | _, _ => none
/-- The kinds of cells that are told. -/
def kindsOf : List SV → Option (List CK)
  | [] => some []
  | .int k _ :: vs => (match kindsOf vs with
    | some ks => some (.int k :: ks)
    | none => none)
  | .bool _ :: vs => (match kindsOf vs with
    | some ks => some (.bool :: ks)
    | none => none)
  | .str _ :: vs => (match kindsOf vs with
    | some ks => some (.str :: ks)
    | none => none)
  | .lstr _ :: vs => (match kindsOf vs with
    | some ks => some (.str :: ks)
    | none => none)
  | _ => none
def setE (l : LE) (i : IE) (c : AL) : LE :=
  match l with
  | .set a j d => if j.beq i then .set a i c else .set l i c
  | l => .set l i c
/-- A part of a row: from off on, so many. -/
def dropE (c : LE) : IE → LE
  | .lit (.ofNat 0) => c
  | e => .drop c e
/-- A length, by its form alone. -/
def lenS : LE → IE
  | .nil => .lit 0
  | .one _ => .lit 1
  | .cat a b => addE (lenS a) (lenS b)
  | .set a _ _ => lenS a
  | e => .len e
def takeE (c : LE) (n : IE) : LE :=
  match c with
  | .cat a b => if (lenS a).beq n then a else .take (.cat a b) n
  | c => .take c n
def winL (c : LE) (tot off len : IE) : LE := if (subE tot off).beq len then dropE c off else takeE (dropE c off) len
def catE : LE → LE → LE
  | .nil, b => b
  | a, .nil => a
  | a, b => .cat a b
def mkLeq (a b : LE) : BE := if a.beq b then .lit true else .leq a b
/-- Elements that are told, one behind the other: so many of so many cells. -/
def rowsL (roms : List (Nat × (Nat × List CK))) (pc : List BE) (ks : List CK) (sz : Nat) : Nat → List SV → Option LE
  | 0, _ => some .nil
  | n + 1, cs => (match toAL roms pc ks (cs.take sz) with
    | some a => (match rowsL roms pc ks sz n (cs.drop sz) with
      | some l => some (catE (.one a) l)
      | none => none)
    | none => none)
end
end Go.Proofs.Ytjgkaimgocnkmab.Sx
