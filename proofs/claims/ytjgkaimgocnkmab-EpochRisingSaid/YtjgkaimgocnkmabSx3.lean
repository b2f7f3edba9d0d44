/- A reckoner of Go's small steps over letters: steps, regions that draw their order, runs. No condition. -/
import Derived.Test.YtjgkaimgocnkmabSxs
import Derived.Orders
set_option linter.unusedVariables false
set_option linter.unusedSimpArgs false
namespace Go.Proofs.Ytjgkaimgocnkmab.Sx
open Go
noncomputable section

inductive Res where
  | next (c : Cfg)
  | many (l : List Cfg)
  | split (c : BE)
  | done (v : SV)
  | fail (n : Nat)
structure Leaf where
  pc : List BE
  val : SV
  heap : SHeap
  next : Nat
inductive Out where
  | leaves (l : List Leaf)
  | fail (n : Nat) (at_ : Nat)
def Out.app : Out → Out → Out
  | .leaves l, .leaves m => .leaves (l ++ m)
  | .fail n a, _ => .fail n a
  | _, .fail n a => .fail n a
def putD (sl : Slots) (dst : Option Tmp) (v : SV) : Slots :=
  match dst with
  | some d => put2 sl d v
  | none => sl
inductive WR where
  | run
  | skip
  | split (c : BE)
  | fail
/-- Whether an operation's guard lets it be. -/
def wantedS (pc : List BE) (ops : List Oper) (sl : Slots) (o : Oper) : WR :=
  match o.guard with
  | none => .run
  | some (j, want) => match nth ops j with
    | none => .skip
    | some oj => match oj.dst with
      | none => .skip
      | some d => match get2 sl d with
        | none => .skip
        | some (.bool b) => (match dec pc b with
          | some r => if r == want then .run else .skip
          | none => .split (atom pc b))
        | some (.tup _) => .skip
        | _ => .fail

/- what can be reached -/
mutual
def SV.names : SV → List Nat
  | .ptr n _ => [n]
  | .slice n _ _ _ => [n]
  | .func (.yield l) f c => l :: (SV.namesL f ++ SV.namesL c)
  | .func _ f c => SV.namesL f ++ SV.namesL c
  | .iface _ v => v.names
  | .sl n cn _ _ _ => [n, cn]
  | .sll n cn _ _ _ _ => [n, cn]
  | .lptr n _ _ _ => [n]
  | .agg cs => SV.namesL cs
  | .tup vs => SV.namesL vs
  | _ => []
def SV.namesL : List SV → List Nat
  | [] => []
  | v :: l => v.names ++ SV.namesL l
end
def memN (n : Nat) : List Nat → Bool
  | [] => false
  | m :: l => if Nat.beq m n then true else memN n l
def addAll : List Nat → List Nat → List Nat
  | [], acc => acc
  | n :: l, acc => if memN n acc then addAll l acc else addAll l (n :: acc)
def SObj.names : SObj → List Nat
  | .cells cs _ => SV.namesL cs
  | .row cs _ cn _ => cn :: SV.namesL cs
  | .rowl _ _ _ _ cn _ => [cn]
  | .loop _ _ _ tmps _ _ _ d => d :: SV.namesL (tmps.flatMap (·.take 8))
  | .defd _ => []
def reachGo (h : SHeap) : Nat → List Nat → List Nat → List Nat
  | 0, _, acc => acc
  | _ + 1, [], acc => acc
  | k + 1, n :: todo, acc => match lk h n with
    | some o => if memN n acc then reachGo h k todo acc else reachGo h k (o.names ++ todo) (n :: acc)
    | none => reachGo h k todo acc
def reach (h : SHeap) (ns : List Nat) : List Nat := reachGo h 200 ns []
def keepH (ns : List Nat) : SHeap → SHeap
  | [] => []
  | (n, o) :: h => if memN n ns then (n, o) :: keepH ns h else keepH ns h

structure Eff where
  dst : Option Tmp
  val : SV
  touch : List Nat
  writes : SHeap
  gone : List Nat
  made : SHeap
  lo : Nat
  hi : Nat
structure RLeaf where
  pc : List BE
  effs : List Eff
  sl : Slots
  heap : SHeap
  next : Nat
inductive RR where
  | leaves (l : List RLeaf)
  | fail (n : Nat)
def RR.app : RR → RR → RR
  | .leaves l, .leaves m => .leaves (l ++ m)
  | .fail n, _ => .fail n
  | _, .fail n => .fail n
def isPure : Op → Bool
  | .load .. => false
  | .store .. => false
  | .call c => (match c.callee with
    | .builtin .len => true
    | .builtin .min => true
    | .builtin .max => true
    | .builtin .cap => true
    | _ => false)
  | .slice .. => false
  | .convert .. => false
  | _ => true
def SObj.beq : SObj → SObj → Bool
  | .cells a t, .cells b u => if Nat.beq t u then SV.beqL a b else false
  | .row a t n z, .row b u m y => if Nat.beq t u then (if Nat.beq n m then (if Nat.beq z y then SV.beqL a b else false) else false) else false
  | .rowl a x ks t n z, .rowl b y js u m w => if Nat.beq t u then (if Nat.beq n m then (if Nat.beq z w then (if ksEq ks js then (if x.beq y then a.beq b else false) else false) else false) else false) else false
  | _, _ => false
def goneOf (h h' : SHeap) : List Nat → List Nat
  | [] => []
  | n :: ns => (match lk h n, lk h' n with
    | some _, none => n :: goneOf h h' ns
    | _, _ => goneOf h h' ns)
def rmAll (h : SHeap) : List Nat → SHeap
  | [] => h
  | n :: l => rmAll (rmH n h) l
def writesOf (h h' : SHeap) : List Nat → Option SHeap
  | [] => some []
  | n :: ns => match lk h n, lk h' n, writesOf h h' ns with
    | some o, some o', some ws => if o.beq o' then some ws else some ((n, o') :: ws)
    | none, _, ws => ws
    | some _, none, ws => ws
    | _, _, _ => none
def madeOf (nx : Nat) : SHeap → SHeap
  | [] => []
  | (n, o) :: h => if Nat.ble nx n then (n, o) :: madeOf nx h else madeOf nx h
def upAll (h : SHeap) : SHeap → SHeap
  | [] => h
  | (n, o) :: ws => upAll (up h n o) ws
def frameOf (f : FuncId) (fn : Func) (body : Code) (args : List SV) : SFrame :=
  { fn := f, tmps := chunk (args.length + fn.ntmps) (args ++ List.replicate (fn.ntmps - args.length) (.tup [])), todo := [.code body], defers := [], ret := false, round := none }
/-- One operation over the part of the memory that it may touch. -/
def aloneOp (T : Tab) (sub : Cfg → Out) (pc : List BE) (hF : SHeap) (nx : Nat) (sl : Slots) (o : Oper) : Out ⊕ BE :=
  match symOp T pc hF nx sl o with
  | .val v h' nx' => .inl (.leaves [{ pc := pc, val := v, heap := h', next := nx' }])
  | .enter f args => (match T.fn.get f with
    | some fn => (match fn.body with
      | some c => (match findO f args T.orac.l with
        | some r => (match dec pc r.c with
          | some true => .inl (.leaves [{ pc := pc, val := r.yes, heap := hF, next := nx }])
          | some false => .inl (.leaves [{ pc := pc, val := r.no, heap := hF, next := nx }])
          | none => .inr (atom pc r.c))
        | none => (match findC T.orac.rom pc hF nx f args T.orac.ctr with
          | .use u => .inl (.leaves [{ pc := u.post ++ pc, val := u.val, heap := u.made ++ hF, next := u.next }])
          | .split b => .inr b
          | .no => .inl (sub { top := frameOf f fn c args, rest := [], heap := hF, next := nx, pc := pc })))
      | none => .inl (.fail 201 f))
    | none => .inl (.fail 202 f))
  | .round _ _ => .inl (.fail 203 0)
  | .split c => .inr c
  | .fail n => .inl (.fail n 0)
def opNames (sl : Slots) (o : Oper) : List Nat := SV.namesL (o.op.operands.toList.map (ev sl))
/-- Which things an operation may read or write. -/
def touchOf (h : SHeap) (sl : Slots) (o : Oper) : List Nat :=
  match o.op with
  | .load _ a => (ev sl a).names
  | .store _ a _ => (ev sl a).names
  | .slice .. => opNames sl o
  | .convert .. => opNames sl o
  | .call c => (match c.callee with
    | .builtin _ => opNames sl o
    | _ => reach h (opNames sl o))
  | _ => reach h (opNames sl o)
/-- What is written, reckoned. -/
def fCells {β : Type} : List SV → (List SV → β) → β
  | [], k => k []
  | v :: l, k => fSV v fun v => fCells l fun l => k (v :: l)
def fWs {β : Type} : SHeap → (SHeap → β) → β
  | [], k => k []
  | (n, o) :: l, k => (match o with
    | .cells cs t => fCells cs fun cs => fWs l fun l => k ((n, .cells cs t) :: l)
    | .row cs t c z => fCells cs fun cs => fWs l fun l => k ((n, .row cs t c z) :: l)
    | o => fWs l fun l => k ((n, o) :: l))
/-- What an operation did: its leaf, held against the memory ahead of it. -/
def effOf (o : Oper) (F : List Nat) (h : SHeap) (nx : Nat) (lf : Leaf) : Option Eff :=
  match writesOf h lf.heap F with
  | none => none
  | some ws => some { dst := o.dst, val := lf.val, touch := F, writes := ws, gone := goneOf h lf.heap F, made := madeOf nx (keepH (reach lf.heap (lf.val.names ++ F)) lf.heap), lo := nx, hi := lf.next }
def overLeaves (k : Leaf → RR) : List Leaf → RR
  | [] => .leaves []
  | l :: ls => RR.app (k l) (overLeaves k ls)
def regGo (T : Tab) (sub : Cfg → Out) (ops : List Oper) : Nat → List Oper → List BE → Slots → SHeap → Nat → List Eff → RR
  | 0, _, _, _, _, _, _ => .fail 209
  | _ + 1, [], pc, sl, h, nx, effs => .leaves [{ pc := pc, effs := effs.reverse, sl := sl, heap := h, next := nx }]
  | k + 1, o :: l, pc, sl, h, nx, effs =>
    match wantedS pc ops sl o with
    | .fail => .fail 210
    | .split c => fBE c fun c => RR.app (regGo T sub ops k (o :: l) (c :: pc) sl h nx effs) (regGo T sub ops k (o :: l) (.not c :: pc) sl h nx effs)
    | .skip => regGo T sub ops k l pc (putD sl o.dst (.tup [])) h nx ({ dst := o.dst, val := .tup [], touch := [], writes := [], gone := [], made := [], lo := nx, hi := nx } :: effs)
    | .run => fL (if isPure o.op then [] else touchOf h sl o) fun F =>
      match aloneOp T sub pc (keepH F h) nx sl o with
      | .inr c => fBE c fun c => RR.app (regGo T sub ops k (o :: l) (c :: pc) sl h nx effs) (regGo T sub ops k (o :: l) (.not c :: pc) sl h nx effs)
      | .inl (.fail n _) => .fail n
      | .inl (.leaves ls) => overLeaves (fun lf => match effOf o F h nx lf with
        | none => .fail 211
        | some e => fWs e.writes fun ws => fL (e.made ++ rmAll (upAll h ws) e.gone) fun h2 => regGo T sub ops k l lf.pc (putD sl o.dst lf.val) h2 lf.next (e :: effs)) ls

/- the order -/
def bindsA (e : Edge) : Bool :=
  match e.ground with
  | .textOnly _ => false
  | .gcOnly _ => false
  | _ => true
def maskOf (bef : List Nat) : List Edge → Nat
  | [] => 0
  | e :: l => if bindsA e then Nat.lor (Nat.lor (Nat.shiftLeft 1 e.on) ((nth bef e.on).getD 0)) (maskOf bef l) else maskOf bef l
/-- For each operation those that stand ahead of it in every order, as bits. -/
def masks : List Oper → List Nat → List Nat
  | [], bef => bef
  | o :: l, bef => fnat (maskOf bef o.after.toList) fun m => masks l (bef ++ [m])
def bitOf (m i : Nat) : Bool := Nat.beq (Nat.land (Nat.shiftRight m i) 1) 1
def disj (a b : List Nat) : Bool :=
  match a with
  | [] => true
  | n :: l => if memN n b then false else disj l b
def dom (h : SHeap) : List Nat := h.map (·.1)
def freshIn (lo hi : Nat) : List Nat → Bool
  | [] => true
  | n :: l => if Nat.ble lo n then (if Nat.blt n hi then false else freshIn lo hi l) else freshIn lo hi l
def objsNames : SHeap → List Nat
  | [] => []
  | (n, o) :: h => n :: (o.names ++ objsNames h)
/-- j does not mind what i does. -/
def minds (i j : Eff) : Bool :=
  if disj (i.gone ++ dom i.writes) j.touch then
    (if Nat.beq i.lo i.hi then true else (if (if freshIn i.lo i.hi j.touch then freshIn i.lo i.hi j.val.names else false) then (if freshIn i.lo i.hi (objsNames j.writes) then freshIn i.lo i.hi (objsNames j.made) else false) else false))
  else false
def loud (i : Eff) : Bool :=
  match i.gone, i.writes with
  | [], [] => if Nat.beq i.lo i.hi then false else true
  | _, _ => true
/-- i against all: those behind it (from place k on), or ahead. -/
def against (i : Eff) (ii bi : Nat) (masks : List Nat) : List Eff → Nat → Bool
  | [], _ => true
  | j :: l, k =>
    if Nat.beq k ii then against i ii bi masks l (k + 1)
    else if bitOf bi k then against i ii bi masks l (k + 1)
    else if bitOf ((nth masks k).getD 0) ii then against i ii bi masks l (k + 1)
    else if minds i j then against i ii bi masks l (k + 1) else false
def memOk (all : List Eff) (masks : List Nat) : List Eff → Nat → Bool
  | [], _ => true
  | i :: l, k => if loud i then (if against i k ((nth masks k).getD 0) masks all 0 then memOk all masks l (k + 1) else false) else memOk all masks l (k + 1)
def allOk (T : Tab) (masks : List Nat) : List RLeaf → Bool
  | [] => true
  | r :: l => if memOk r.effs masks r.effs 0 then allOk T masks l else false
/-- The region as a whole. -/
def region (T : Tab) (sub : Cfg → Out) (fuel : Nat) (pc : List BE) (ops : List Oper) (sl : Slots) (h : SHeap) (nx : Nat) : RR :=
  match regGo T sub ops fuel ops pc sl h nx [] with
  | .leaves ls => if fL (masks ops []) fun ms => allOk T ms ls then .leaves ls else .fail 220
  | r => r

/- what a function's text must keep to -/
def pairsAt (ops : Array Oper) (ms : List Nat) (oi : Oper) (i : Nat) : List Oper → Nat → Bool
  | [], _ => true
  | oj :: l, j => if bitOf ((nth ms j).getD 0) i then pairsAt ops ms oi i l (j + 1) else (if Oper.apart ops oi oj then pairsAt ops ms oi i l (j + 1) else false)
def pairsOk (ops : Array Oper) (ms : List Nat) : List Oper → Nat → Bool
  | [], _ => true
  | oi :: l, i => if pairsAt ops ms oi i l (i + 1) then pairsOk ops ms l (i + 1) else false
def edgesAt (i : Nat) : List Edge → Bool
  | [] => true
  | e :: l => if bindsA e then (if Nat.blt e.on i then edgesAt i l else false) else edgesAt i l
def edgesOk : List Oper → Nat → Bool
  | [], _ => true
  | o :: l, i => if edgesAt i o.after.toList then edgesOk l (i + 1) else false
def plainOp (o : Oper) : Bool :=
  match o.op with
  | .defer _ => false
  | .select _ _ => false
  | _ => true
def allPlain : List Oper → Bool
  | [] => true
  | o :: l => if plainOp o then allPlain l else false
def slotsOk (ops : Array Oper) : Bool :=
  if edgesOk ops.toList 0 then (if allPlain ops.toList then fL (masks ops.toList []) fun ms => pairsOk ops ms ops.toList 0 else false) else false
def codeOk : Code → Bool
  | .region _ ops true => slotsOk ops
  | .region _ ops false => allPlain ops.toList
  | .seq a b => if codeOk a then codeOk b else false
  | .cond _ a b => if codeOk a then codeOk b else false
  | .block _ b => codeOk b
  | .loop b => codeOk b
  | .rangeFunc _ _ a b => if codeOk a then codeOk b else false
  | .scope b => codeOk b
  | _ => true
/- control -/
def exitS (id : Nat) : List SItem → Option (List SItem)
  | [] => none
  | .inBlock i :: k => if Nat.beq i id then some k else exitS id k
  | _ :: k => exitS id k
def gotoS (l : Nat) : List SItem → Option (List SItem)
  | [] => none
  | .inScope body :: k => (match findLabel body l with
    | some rest => some (.code rest :: .inScope body :: k)
    | none => gotoS l k)
  | _ :: k => gotoS l k
def rangeS : Nat → Nat → List Nat
  | 0, _ => []
  | n + 1, i => i :: rangeS n (i + 1)
/-- The value into the frame that asked for it. -/
def finishS (f : SFrame) (v : SV) : Option SFrame :=
  match f.todo with
  | .inRegion ops (i :: rest) :: k => (match nth ops.toList i with
    | some o => some { f with tmps := putD f.tmps o.dst v, todo := .inRegion ops rest :: k }
    | none => none)
  | .inRange l :: k => some { f with todo := .endRange l :: k }
  | _ => none
def giveBack (C : Cfg) (h : SHeap) (v : SV) : Res :=
  match C.rest with
  | [] => .done v
  | f :: fs => match finishS f v with
    | some f' => .next { C with top := f', rest := fs, heap := h }
    | none => .fail 300
def resultS (T : Tab) (h : SHeap) (sl : Slots) : List ResultVar → Option (List SV)
  | [] => some []
  | .tmp t :: l => (match resultS T h sl l with
    | some vs => some ((get2 sl t).getD (.tup []) :: vs)
    | none => none)
  | .cell a t :: l => (match (get2 sl a).getD (.tup []), resultS T h sl l with
    | .ptr n off, some vs => (match loadAt T h 0 t n off with
      | .val v _ _ => some (v :: vs)
      | _ => none)
    | _, _ => none)
def oneOf : List SV → SV
  | [v] => v
  | vs => .tup vs
def jst : Option Code → LoopState
  | none => .ready
  | some _ => .done
def jb : Option Code → Bool
  | none => true
  | some _ => false
def leaveS (C : Cfg) (jump : Option Code) : Res :=
  match C.top.round with
  | none => (match jump with
    | none => .next { C with top := { C.top with ret := true } }
    | some .ret => .next { C with top := { C.top with ret := true } }
    | _ => .fail 310)
  | some l => (match lk C.heap l with
    | some (.loop _ _ fn tmps ps as body d) => (match C.rest with
      | [] => .fail 312
      | _ :: _ => giveBack C (up C.heap l (.loop (jst jump) jump fn tmps ps as body d)) (.bool (.lit (jb jump))))
    | _ => .fail 311)
def enterS (T : Tab) (C : Cfg) (f : FuncId) (args : List SV) : Res :=
  match T.fn.get f with
  | some fn => (match fn.body with
    | some c => .next { C with top := frameOf f fn c args, rest := C.top :: C.rest }
    | none => .fail 320)
  | none => .fail (10000 + f)
def setParams (sl : Slots) : List Tmp → List SV → Option Slots
  | [], [] => some sl
  | p :: ps, v :: vs => setParams (put2 sl p v) ps vs
  | _, _ => none
def stLoop : LoopState → Nat
  | .ready => 0 | .busy => 1 | .done => 2 | .exhausted => 3
def valTo (C : Cfg) (ops : Array Oper) (rest : List Nat) (k : List SItem) (dst : Option Tmp) (v : SV) (h : SHeap) (nx : Nat) : Res :=
  .next { C with top := { C.top with tmps := putD C.top.tmps dst v, todo := .inRegion ops rest :: k }, heap := h, next := nx }
def enterR (T : Tab) (C : Cfg) (ops : Array Oper) (rest : List Nat) (k : List SItem) (dst : Option Tmp) (f : FuncId) (args : List SV) : Res :=
  match T.fn.get f with
  | some fn => (match fn.body with
    | some c => (match findO f args T.orac.l with
      | some r => (match dec C.pc r.c with
        | some true => valTo C ops rest k dst r.yes C.heap C.next
        | some false => valTo C ops rest k dst r.no C.heap C.next
        | none => .split (atom C.pc r.c))
      | none => (match findC T.orac.rom C.pc C.heap C.next f args T.orac.ctr with
        | .split b => .split b
        | .use u => .many [{ C with top := { C.top with tmps := putD C.top.tmps dst u.val, todo := .inRegion ops rest :: k }, heap := u.made ++ C.heap, next := u.next, pc := u.post ++ C.pc }]
        | .no => .next { C with top := frameOf f fn c args, rest := C.top :: C.rest }))
    | none => .fail 320)
  | none => .fail (10000 + f)
def roundR (C : Cfg) (l : Nat) (args : List SV) : Res :=
  match lk C.heap l with
  | some (.loop _ _ fn tmps ps as body _) => (match setParams tmps ps args with
    | some tmps' => .next { C with top := { fn := fn, tmps := tmps', todo := [.code as, .beginRound, .code body], defers := [], ret := false, round := some l }, rest := C.top :: C.rest }
    | none => .fail 332)
  | _ => .fail 333
def runR (T : Tab) (C : Cfg) (ops : Array Oper) (rest : List Nat) (k : List SItem) (o : Oper) : Res :=
  match symOp T C.pc C.heap C.next C.top.tmps o with
  | .val v h nx => valTo C ops rest k o.dst v h nx
  | .enter f args => enterR T C ops rest k o.dst f args
  | .round l args => roundR C l args
  | .split c => .split c
  | .fail n => .fail n
def wantR (T : Tab) (C : Cfg) (ops : Array Oper) (rest : List Nat) (k : List SItem) (o : Oper) : Res :=
  match wantedS C.pc ops.toList C.top.tmps o with
  | .fail => .fail 331
  | .split c => .split c
  | .skip => valTo C ops rest k o.dst (.tup []) C.heap C.next
  | .run => runR T C ops rest k o
def stepRegion (T : Tab) (C : Cfg) (ops : Array Oper) (i : Nat) (rest : List Nat) (k : List SItem) : Res :=
  match nth ops.toList i with
  | none => .fail 330
  | some o => wantR T C ops rest k o
def stepRange (T : Tab) (C : Cfg) (f : Operand) (params : Array Tmp) (assign body : Code) (k : List SItem) : Res :=
  match ev C.top.tmps f with
  | .func (.func g) first captured =>
    (match C.top.round with
    | none =>
      let h : SHeap := (C.next + 1, .loop .ready none C.top.fn C.top.tmps params.toList assign body C.next) :: (C.next, .defd true) :: C.heap
      enterS T { C with top := { C.top with todo := .inRange (C.next + 1) :: k, defers := C.next :: C.top.defers }, heap := h, next := C.next + 2 } g (first ++ [.func (.yield (C.next + 1)) [] []] ++ captured)
    | some l => (match lk C.heap l with
      | some (.loop _ _ _ _ _ _ _ d) =>
        let h : SHeap := (C.next, .loop .ready none C.top.fn C.top.tmps params.toList assign body d) :: C.heap
        enterS T { C with top := { C.top with todo := .inRange C.next :: k }, heap := h, next := C.next + 1 } g (first ++ [.func (.yield C.next) [] []] ++ captured)
      | _ => .fail 340))
  | _ => .fail 341
def goOn (C : Cfg) (k : List SItem) (r : RLeaf) : Cfg := { C with top := { C.top with tmps := r.sl, todo := k }, heap := r.heap, next := r.next, pc := r.pc }
def todo (C : Cfg) (k : List SItem) : Res := .next { C with top := { C.top with todo := k } }
def retStep (T : Tab) (C : Cfg) : Res :=
  match C.top.defers with
  | n :: ds => (match lk C.heap n with
    | some (.defd true) => .next { C with top := { C.top with defers := ds }, heap := up C.heap n (.defd false) }
    | _ => .fail 350)
  | [] => (match T.fn.get C.top.fn with
    | some fn => (match resultS T C.heap C.top.tmps fn.results.toList with
      | some vs => giveBack C C.heap (oneOf vs)
      | none => .fail 351)
    | none => .fail 352)
def condStep (C : Cfg) (c : Operand) (a b : Code) (k : List SItem) : Res :=
  match ev C.top.tmps c with
  | .bool t => (match dec C.pc t with
    | some true => todo C (.code a :: k)
    | some false => todo C (.code b :: k)
    | none => .split (atom C.pc t))
  | _ => .fail 360
def exitStep (C : Cfg) (id : Nat) (k : List SItem) : Res :=
  match exitS id k with
  | some k' => todo C k'
  | none => leaveS C (some (.exit id))
def gotoStep (C : Cfg) (l : Nat) (k : List SItem) : Res :=
  match gotoS l k with
  | some k' => todo C k'
  | none => leaveS C (some (.goto l))
def drawStep (T : Tab) (sub : Cfg → Out) (fuel : Nat) (C : Cfg) (ops : Array Oper) (k : List SItem) : Res :=
  match region T sub fuel C.pc ops.toList C.top.tmps C.heap C.next with
  | .leaves ls => .many (ls.map (goOn C k))
  | .fail n => .fail n
def codeStep (T : Tab) (sub : Cfg → Out) (fuel : Nat) (C : Cfg) (c : Code) (k : List SItem) : Res :=
  match c with
  | .skip => todo C k
  | .label _ => todo C k
  | .seq a b => todo C (.code a :: .code b :: k)
  | .cond c a b => condStep C c a b k
  | .block id b => todo C (.code b :: .inBlock id :: k)
  | .loop b => todo C (.code b :: .inLoop b :: k)
  | .scope b => todo C (.code b :: .inScope b :: k)
  | .exit id => exitStep C id k
  | .goto l => gotoStep C l k
  | .ret => leaveS C (some .ret)
  | .rangeFunc f ps as b => stepRange T C f ps as b k
  | .region _ ops false => todo C (.inRegion ops (rangeS ops.toList.length 0) :: k)
  | .region _ ops true => drawStep T sub fuel C ops k
  | .refuse _ => .fail 361
def endRangeStep (C : Cfg) (l : Nat) (k : List SItem) : Res :=
  match lk C.heap l with
  | some (.loop st pend fn tmps ps as body d) => if Nat.beq (stLoop st) 1 then .fail 363 else
    .next { C with top := { C.top with todo := (match pend with | some c => [.code c] | none => []) ++ k }, heap := up C.heap l (.loop .exhausted pend fn tmps ps as body d) }
  | _ => .fail 364
def beginStep (C : Cfg) (k : List SItem) : Res :=
  match C.top.round with
  | some l => (match lk C.heap l with
    | some (.loop .ready pend fn tmps ps as body d) => .next { C with top := { C.top with todo := k }, heap := up C.heap l (.loop .busy pend fn tmps ps as body d) }
    | _ => .fail 365)
  | none => .fail 366
def itemStep (T : Tab) (sub : Cfg → Out) (fuel : Nat) (C : Cfg) (i : SItem) (k : List SItem) : Res :=
  match i with
  | .code c => codeStep T sub fuel C c k
  | .inBlock _ => todo C k
  | .inScope _ => todo C k
  | .inLoop b => todo C (.code b :: .inLoop b :: k)
  | .inRegion _ [] => todo C k
  | .inRegion ops (i :: rest) => stepRegion T C ops i rest k
  | .inRange _ => .fail 362
  | .endRange l => endRangeStep C l k
  | .beginRound => beginStep C k
def stepS (T : Tab) (sub : Cfg → Out) (fuel : Nat) (C : Cfg) : Res :=
  match C.top.ret with
  | true => retStep T C
  | false => match C.top.todo with
    | [] => leaveS C none
    | i :: k => itemStep T sub fuel C i k

def overCfgs (k : Cfg → Out) : List Cfg → Out
  | [] => .leaves []
  | C :: l => Out.app (k C) (overCfgs k l)
def runS (T : Tab) : Nat → Cfg → Out
  | 0, C => .fail 401 C.top.fn
  | n + 1, C => match stepS T (runS T n) n C with
    | .next C' => runS T n C'
    | .many l => overCfgs (runS T n) l
    | .split c => fBE c fun c => Out.app (runS T n { C with pc := c :: C.pc }) (runS T n { C with pc := .not c :: C.pc })
    | .done v => .leaves [{ pc := C.pc, val := v, heap := C.heap, next := C.next }]
    | .fail m => .fail m C.top.fn
def callS (T : Tab) (fuel : Nat) (f : FuncId) (args : List SV) (pc : List BE) : Out :=
  match T.fn.get f with
  | some fn => (match fn.body with
    | some c => runS T fuel { top := frameOf f fn c args, rest := [], heap := [], next := 0, pc := pc }
    | none => .fail 402 f)
  | none => .fail 403 f
end
end Go.Proofs.Ytjgkaimgocnkmab.Sx
