/- A reckoner of Go's small steps over letters: runs that stop at the heads of loops; templates of what stands there. No condition. -/
import Derived.Test.YtjgkaimgocnkmabSp20
set_option linter.unusedVariables false
set_option linter.unusedSimpArgs false
set_option linter.deprecated false
namespace Go.Proofs.Ytjgkaimgocnkmab.Sx
open Go
noncomputable section

inductive Piece where
  | done (l : Leaf)
  | cut (k : Nat) (C : Cfg)
inductive POut where
  | ok (l : List Piece)
  | fail (n : Nat) (at_ : Nat)
def POut.app : POut → POut → POut
  | .ok l, .ok m => .ok (l ++ m)
  | .fail n a, _ => .fail n a
  | _, .fail n a => .fail n a
def isHead (C : Cfg) : Bool :=
  match C.top.ret with
  | true => false
  | false => (match C.top.todo with
    | .code (.loop _) :: _ => true
    | .inLoop _ :: _ => true
    | _ => false)
def loopsIn : List SItem → Nat
  | [] => 0
  | .inLoop _ :: k => Nat.succ (loopsIn k)
  | _ :: k => loopsIn k
/-- The number of the first region, and one; 0: there is none. -/
def firstReg : Code → Nat
  | .seq a b => (match firstReg a with
    | 0 => firstReg b
    | n + 1 => n + 1)
  | .cond _ a b => (match firstReg a with
    | 0 => firstReg b
    | n + 1 => n + 1)
  | .block _ b => firstReg b
  | .loop b => firstReg b
  | .scope b => firstReg b
  | .region id _ _ => Nat.succ id
  | _ => 0
def headReg : List SItem → Nat
  | .code b :: _ => firstReg b
  | _ => 0
def frameAt (C : Cfg) : Nat → Option SFrame
  | 0 => some C.top
  | n + 1 => nth C.rest n
/-- A slot of a frame, or a cell at which it points: is it nil? -/
def nilAt (C : Cfg) (fr sl c : Nat) : Bool :=
  match frameAt C fr with
  | none => false
  | some f => (match get2 f.tmps sl, c with
    | some v, 0 => isNilS v
    | some (.ptr n off), c + 1 => (match ocs C.heap n with
      | some cs => (match nth cs (Nat.add off c) with
        | some v => isNilS v
        | none => false)
      | none => false)
    | _, _ => false)
/-- 0: no test; else 1 + tag + 2 * (cell + 64 * (slot + 256 * frame)); tag 0: it is nil, 1: it is not. -/
def nilOk (C : Cfg) : Nat → Bool
  | 0 => true
  | n + 1 => (match nilAt C (Nat.div (Nat.div n 128) 256) (Nat.mod (Nat.div n 128) 256) (Nat.mod (Nat.div n 2) 64) with
    | true => Nat.beq (Nat.mod n 2) 0
    | false => Nat.beq (Nat.mod n 2) 1)
/-- 0: no test; else 1 + how many calls are put off + 100 * frame. -/
def defsOk (C : Cfg) : Nat → Bool
  | 0 => true
  | n + 1 => (match frameAt C (Nat.div n 100) with
    | some f => Nat.beq f.defers.length (Nat.mod n 100)
    | none => false)
/-- Both tests: the second one by ten millions. -/
def testOk (C : Cfg) (n : Nat) : Bool := if nilOk C (Nat.mod n 10000000) then defsOk C (Nat.div n 10000000) else false
/-- Where it stops: function, how many loops round it there (and 1000000 * the first region's number and one), how deep the calls (and 1000 * a test); a number for it. -/
abbrev Sel := List (Nat × Nat × Nat × Nat)
def keyOk (C : Cfg) (x l : Nat) : Bool := if Nat.beq x l then true else if Nat.ble 1000000 l then Nat.beq l (Nat.add (Nat.mul 1000000 (headReg C.top.todo)) x) else false
def selOf : Sel → Nat → Cfg → Option Nat
  | [], _, _ => none
  | (f, l, d, k) :: r, x, C => if Nat.beq C.top.fn f then (if keyOk C x l then (if Nat.beq C.rest.length (Nat.mod d 1000) then (if testOk C (Nat.div d 1000) then some k else selOf r x C) else selOf r x C) else selOf r x C) else selOf r x C
/-- At the head of a loop: how many loops round it; ahead of a region: 1000 and its number. -/
def keyOf (C C' : Cfg) : Option Nat :=
  if isHead C then some (loopsIn C'.top.todo) else (match C'.top.ret, C'.top.todo with
    | false, .code (.region id _ _) :: _ => some (Nat.add 1000 id)
    | _, _ => none)
def overC (k : Cfg → POut) : List Cfg → POut
  | [] => .ok []
  | C :: l => POut.app (k C) (overC k l)
def runC (T : Tab) (sel : Sel) : Nat → Cfg → POut
  | 0, C => .fail 401 C.top.fn
  | n + 1, C => match stepS T (runS T n) n C with
    | .next C' => (match keyOf C C' with
      | some x => (match selOf sel x C' with
        | some k => .ok [.cut k C']
        | none => runC T sel n C')
      | none => runC T sel n C')
    | .many l => overC (runC T sel n) l
    | .split c => fBE c fun c => POut.app (runC T sel n { C with pc := c :: C.pc }) (runC T sel n { C with pc := .not c :: C.pc })
    | .done v => .ok [.done { pc := C.pc, val := v, heap := C.heap, next := C.next }]
    | .fail m => .fail m C.top.fn

def SItem.sb (S : Sub) : SItem → SItem
  | .inRange n => .inRange (nmA S.a n)
  | .endRange n => .endRange (nmA S.a n)
  | i => i
def subTodo (S : Sub) : List SItem → List SItem
  | [] => []
  | i :: k => i.sb S :: subTodo S k
def subNs (S : Sub) : List Nat → List Nat
  | [] => []
  | n :: l => nmA S.a n :: subNs S l

/- what a template's letters stand for (not trusted) -/
def colI (t a : IE) (S : Sub) : Sub := match t with
  | .var k n => if Nat.ble 1000 n then S.addI k n a else S
  | _ => S
def colB (t a : BE) (S : Sub) : Sub := match t with
  | .var n => if Nat.ble 1000 n then S.addB n a else S
  | _ => S
def colE (t a : LE) (S : Sub) : Sub := match t with
  | .var n => if Nat.ble 1000 n then S.addL n a else S
  | _ => S
def colIs : List IE → List IE → Sub → Sub
  | t :: l, a :: m, S => colIs l m (colI t a S)
  | _, _, S => S
mutual
def colV : SV → SV → Sub → Sub
  | .int _ t, .int _ a, S => colI t a S
  | .bool t, .bool a, S => colB t a S
  | .opq n, a, S => if Nat.ble 1000 n then S.addV n a else S
  | .ptr n _, .ptr m _, S => S.addA n m
  | .slice n _ _ _, .slice m _ _ _, S => S.addA n m
  | .sl n c _ _ _, .sl m d _ _ _, S => (S.addA n m).addA c d
  | .agg l, .agg m, S => colL l m S
  | .tup l, .tup m, S => colL l m S
  | .func (.yield n) f c, .func (.yield m) g d, S => colL c d (colL f g (S.addA n m))
  | .func _ f c, .func _ g d, S => colL c d (colL f g S)
  | .iface _ v, .iface _ u, S => colV v u S
  | .rom _ a b _, .rom _ c d _, S => colI b d (colI a c S)
  | .rptr _ a _, .rptr _ b _, S => colI a b S
  | .str l, .str m, S => colIs l m S
  | .sll n c _ a b _, .sll m d _ e f _, S => colI b f (colI a e ((S.addA n m).addA c d))
  | .lptr n _ a _, .lptr m _ b _, S => colI a b (S.addA n m)
  | .lstr l, .lstr m, S => colE l m S
  | .lstr l, .str bs, S => colE l (strL bs) S
  | _, _, S => S
def colL : List SV → List SV → Sub → Sub
  | v :: l, u :: m, S => colL l m (colV v u S)
  | _, _, S => S
end
def colSl : Slots → Slots → Sub → Sub
  | l :: r, m :: q, S => colSl r q (colL l m S)
  | _, _, S => S
def colNs : List Nat → List Nat → Sub → Sub
  | n :: l, m :: k, S => colNs l k (S.addA n m)
  | _, _, S => S
def colTodo : List SItem → List SItem → Sub → Sub
  | .inRange n :: l, .inRange m :: k, S => colTodo l k (S.addA n m)
  | .endRange n :: l, .endRange m :: k, S => colTodo l k (S.addA n m)
  | _ :: l, _ :: k, S => colTodo l k S
  | _, _, S => S
def colF (t a : SFrame) (S : Sub) : Sub := colTodo t.todo a.todo (colSl t.tmps a.tmps (colNs t.defers a.defers (match t.round, a.round with
  | some n, some m => S.addA n m
  | _, _ => S)))
def colFs : List SFrame → List SFrame → Sub → Sub
  | t :: l, a :: m, S => colFs l m (colF t a S)
  | _, _, S => S
def colO (t a : SObj) (S : Sub) : Sub := match t, a with
  | .cells l _, .cells m _ => colL l m S
  | .row l _ c _, .row m _ d _ => colL l m (S.addA c d)
  | .rowl l x _ _ c _, .rowl m y _ _ d _ => colI x y (colE l m (S.addA c d))
  | .loop _ _ _ t _ _ _ d, .loop _ _ _ a _ _ _ e => colSl t a (S.addA d e)
  | _, _ => S
def colH (h : SHeap) : SHeap → Sub → Sub
  | [], S => S
  | (n, o) :: l, S => (match lk h (nmA S.a n) with
    | some a => colH h l (colO o a S)
    | none => colH h l S)

/- whether it fits (this is what is proved) -/
def eqSl : Slots → Slots → Bool
  | [], [] => true
  | l :: r, m :: q => if SV.beqL l m then eqSl r q else false
  | _, _ => false
def eqNs : List Nat → List Nat → Bool
  | [], [] => true
  | n :: l, m :: k => if Nat.beq n m then eqNs l k else false
  | _, _ => false
def eqON : Option Nat → Option Nat → Bool
  | none, none => true
  | some n, some m => Nat.beq n m
  | _, _ => false
def fitF (pc : List BE) (S : Sub) (t a : SFrame) : Bool :=
  if Nat.beq t.fn a.fn then (if eqSl (subSl pc S t.tmps) a.tmps then (if eqNs (subNs S t.defers) a.defers then (match t.ret, a.ret with
    | false, false => eqON (t.round.map (nmA S.a)) a.round
    | _, _ => false) else false) else false) else false
def fitFs (pc : List BE) (S : Sub) : List SFrame → List SFrame → Bool
  | [], [] => true
  | t :: l, a :: m => if fitF pc S t a then fitFs pc S l m else false
  | _, _ => false
def noPend : Option Code → Bool
  | none => true
  | some _ => false
def fitO (pc : List BE) (S : Sub) (t a : SObj) : Bool :=
  match t, a with
  | .cells l ty, .cells m ty' => if Nat.beq ty ty' then SV.beqL (SV.sbL pc S l) m else false
  | .row l ty c z, .row m ty' d z' => if Nat.beq ty ty' then (if Nat.beq (nmA S.a c) d then (if Nat.beq z z' then SV.beqL (SV.sbL pc S l) m else false) else false) else false
  | .rowl l x ks ty c z, .rowl m y js ty' d z' => if Nat.beq ty ty' then (if Nat.beq (nmA S.a c) d then (if Nat.beq z z' then (if ksEq ks js then (if (x.sb pc S).beq y then (l.sb pc S).beq m else false) else false) else false) else false) else false
  | .loop st p fn tm ps _ _ d, .loop st' p' fn' tm' ps' _ _ d' => if Nat.beq (stLoop st) (stLoop st') then (if noPend p then (if noPend p' then (if Nat.beq fn fn' then (if eqSl (subSl pc S tm) tm' then (if eqNs ps ps' then Nat.beq (nmA S.a d) d' else false) else false) else false) else false) else false) else false
  | .defd s, .defd s' => s == s'
  | _, _ => false
def fitH (pc : List BE) (S : Sub) (h : SHeap) : SHeap → Bool
  | [] => true
  | (n, o) :: l => (match lk h (nmA S.a n) with
    | some a => if fitO pc S o a then fitH pc S h l else false
    | none => false)
/-- No two names of the template's memory stand for one. -/
def apartN (S : Sub) : SHeap → List Nat → Bool
  | [], _ => true
  | (n, _) :: l, seen => if memN (nmA S.a n) seen then false else apartN S l (nmA S.a n :: seen)
/-- Behind the mark stand facts that are shown in Lean. -/
def isMark : BE → Bool
  | .and (.lit true) (.lit true) => true
  | _ => false
def okPc (pc : List BE) (S : Sub) : List BE → Bool
  | [] => true
  | p :: l => if isMark p then true else (match dec pc (p.sb pc S) with
    | some true => okPc pc S l
    | _ => false)
def leanOf : List BE → List BE
  | [] => []
  | p :: l => if isMark p then l else leanOf l
/-- Whether a letter is the content of one of the rows. -/
def inRows (n : Nat) : SHeap → Bool
  | [] => false
  | (_, .rowl (.var m) _ _ _ _ _) :: l => if Nat.beq n m then true else inRows n l
  | _ :: l => inRows n l
def oddTy (roms : List (Nat × (Nat × List CK))) (pc : List BE) (n : Nat) (e : LE) : Bool := if oddN n then typedB roms pc e else true
def lenTy (pc : List BE) (t : SHeap) (n : Nat) (e : LE) : Bool := if inRows n t then true else (match dec pc (mkLe (lenE pc e) (.lit 9223372036854775807)) with
    | some true => true
    | _ => false)
def okLs (roms : List (Nat × (Nat × List CK))) (pc : List BE) (t : SHeap) : List (Nat × LE) → Bool
  | [] => true
  | (n, e) :: l => if oddTy roms pc n e then (if lenTy pc t n e then okLs roms pc t l else false) else false
/-- Only letters from 1000 on stand for other things. -/
def keysI : List (IntKind × Nat × IE) → Bool
  | [] => true
  | (_, n, _) :: l => if Nat.ble 1000 n then keysI l else false
def keysN {α : Type} : List (Nat × α) → Bool
  | [] => true
  | (n, _) :: l => if Nat.ble 1000 n then keysN l else false
def keysOk (S : Sub) : Bool := if keysI S.i then (if keysN S.b then (if keysN S.l then (match S.r with
  | [] => true
  | _ => false) else false) else false) else false
/-- The code that must be the same. -/
def codesF : List SFrame → List (List SItem)
  | [] => []
  | f :: l => f.todo :: codesF l
def codesH : SHeap → List (List SItem)
  | [] => []
  | (_, .loop _ _ _ _ _ as body _) :: l => [.code as, .code body] :: codesH l
  | _ :: l => codesH l
def pickH (S : Sub) (h : SHeap) : SHeap → SHeap
  | [] => []
  | (n, o) :: l => (match lk h (nmA S.a n) with
    | some a => (n, a) :: pickH S h l
    | none => (n, o) :: pickH S h l)
def subTodos (S : Sub) : List (List SItem) → List (List SItem)
  | [] => []
  | t :: l => subTodo S t :: subTodos S l
def codesOf (S : Sub) (C : Cfg) : List (List SItem) := subTodos S (codesF (C.top :: C.rest)) ++ codesH C.heap
inductive View where
  | done (l : Leaf)
  | cut (k : Nat) (pc : List BE) (S : Sub) (codes : List (List SItem))
  | bad (k : Nat) (why : Nat) (S : Sub) (C : Cfg)
def subOf (Ck C : Cfg) : Sub := colH C.heap Ck.heap (colFs (Ck.top :: Ck.rest) (C.top :: C.rest) Sub.nil)
def fitWith (roms : List (Nat × (Nat × List CK))) (k : Nat) (Ck C : Cfg) (S : Sub) : View :=
  if fitFs C.pc S (Ck.top :: Ck.rest) (C.top :: C.rest) then (if fitH C.pc S C.heap Ck.heap then (if apartN S Ck.heap [] then (if insK (.lit true :: C.pc) S.i then (if okLs roms (.lit true :: C.pc) Ck.heap S.l then (if keysOk S then (if okPc (.lit true :: C.pc) S Ck.pc then .cut k C.pc S (codesF (C.top :: C.rest) ++ codesH (pickH S C.heap Ck.heap)) else .bad k 5 S C) else .bad k 7 S C) else .bad k 8 S C) else .bad k 4 S C) else .bad k 3 S C) else .bad k 2 S C) else .bad k 1 S C
def viewP (roms : List (Nat × (Nat × List CK))) (tm : List (Nat × Cfg)) : Piece → View
  | .done l => .done l
  | .cut k C => (match lk tm k with
    | some Ck => fitWith roms k Ck C (subOf Ck C)
    | none => .bad k 6 Sub.nil C)
def viewL (roms : List (Nat × (Nat × List CK))) (tm : List (Nat × Cfg)) : List Piece → List View
  | [] => []
  | p :: l => viewP roms tm p :: viewL roms tm l
inductive VOut where
  | ok (l : List View)
  | fail (n at_ : Nat)
def viewO (roms : List (Nat × (Nat × List CK))) (tm : List (Nat × Cfg)) : POut → VOut
  | .ok l => .ok (viewL roms tm l)
  | .fail n a => .fail n a

/- where code goes on: behind the head of a loop, behind a call, behind a range -/
def oapp (o : Option (List SItem)) (k : List SItem) : Option (List SItem) := match o with
  | some l => some (l ++ k)
  | none => none
def oor (o p : Option (List SItem)) : Option (List SItem) := match o with
  | some l => some l
  | none => p
def nLoops : Code → Nat
  | .seq a b => Nat.add (nLoops a) (nLoops b)
  | .cond _ a b => Nat.add (nLoops a) (nLoops b)
  | .block _ b => nLoops b
  | .loop b => Nat.succ (nLoops b)
  | .scope b => nLoops b
  | _ => 0
/-- Behind the head of the n-th loop. -/
def loopTodo : Code → Nat → Option (List SItem)
  | .seq a b, n => if Nat.blt n (nLoops a) then oapp (loopTodo a n) [.code b] else loopTodo b (Nat.sub n (nLoops a))
  | .cond _ a b, n => if Nat.blt n (nLoops a) then loopTodo a n else loopTodo b (Nat.sub n (nLoops a))
  | .block id b, n => oapp (loopTodo b n) [.inBlock id]
  | .loop b, 0 => some [.code b, .inLoop b]
  | .loop b, n + 1 => oapp (loopTodo b n) [.inLoop b]
  | .scope b, n => oapp (loopTodo b n) [.inScope b]
  | _, _ => none
/-- In the region of that number, with those operations to come. -/
def callTodo : Code → Nat → List Nat → Option (List SItem)
  | .seq a b, id, r => oor (oapp (callTodo a id r) [.code b]) (callTodo b id r)
  | .cond _ a b, id, r => oor (callTodo a id r) (callTodo b id r)
  | .block k b, id, r => oapp (callTodo b id r) [.inBlock k]
  | .loop b, id, r => oapp (callTodo b id r) [.inLoop b]
  | .scope b, id, r => oapp (callTodo b id r) [.inScope b]
  | .region k ops _, id, r => if Nat.beq k id then some [.inRegion ops r] else none
  | _, _, _ => none
/-- Ahead of the region of that number. -/
def atTodo : Code → Nat → Option (List SItem)
  | .seq a b, id => oor (oapp (atTodo a id) [.code b]) (atTodo b id)
  | .cond _ a b, id => oor (atTodo a id) (atTodo b id)
  | .block k b, id => oapp (atTodo b id) [.inBlock k]
  | .loop b, id => oapp (atTodo b id) [.inLoop b]
  | .scope b, id => oapp (atTodo b id) [.inScope b]
  | .region k ops d, id => if Nat.beq k id then some [.code (.region k ops d)] else none
  | _, _ => none
def nRanges : Code → Nat
  | .seq a b => Nat.add (nRanges a) (nRanges b)
  | .cond _ a b => Nat.add (nRanges a) (nRanges b)
  | .block _ b => nRanges b
  | .loop b => nRanges b
  | .scope b => nRanges b
  | .rangeFunc _ _ _ _ => 1
  | _ => 0
/-- In the n-th range over a function. -/
def rangeTodo : Code → Nat → Nat → Option (List SItem)
  | .seq a b, n, l => if Nat.blt n (nRanges a) then oapp (rangeTodo a n l) [.code b] else rangeTodo b (Nat.sub n (nRanges a)) l
  | .cond _ a b, n, l => if Nat.blt n (nRanges a) then rangeTodo a n l else rangeTodo b (Nat.sub n (nRanges a)) l
  | .block id b, n, l => oapp (rangeTodo b n l) [.inBlock id]
  | .loop b, n, l => oapp (rangeTodo b n l) [.inLoop b]
  | .scope b, n, l => oapp (rangeTodo b n l) [.inScope b]
  | .rangeFunc _ _ _ _, 0, l => some [.inRange l]
  | _, _, _ => none
/-- The code of a round: what it assigns, its body. -/
def rangeCode : Code → Nat → Option (Code × Code)
  | .seq a b, n => if Nat.blt n (nRanges a) then rangeCode a n else rangeCode b (Nat.sub n (nRanges a))
  | .cond _ a b, n => if Nat.blt n (nRanges a) then rangeCode a n else rangeCode b (Nat.sub n (nRanges a))
  | .block _ b, n => rangeCode b n
  | .loop b, n => rangeCode b n
  | .scope b, n => rangeCode b n
  | .rangeFunc _ _ as b, 0 => some (as, b)
  | _, _ => none
def bodyOf (T : Tab) (f : Nat) : Code := match T.fn.get f with
  | some F => (match F.body with
    | some c => c
    | none => .skip)
  | none => .skip
def ogt (o : Option (List SItem)) : List SItem := match o with
  | some l => l
  | none => []
end
end Go.Proofs.Ytjgkaimgocnkmab.Sx
