/- Layer octet: words. No condition. -/
import Derived.Test.YthenenacmiiphaaSw
set_option linter.unusedVariables false
set_option linter.unusedSimpArgs false
set_option linter.deprecated false
namespace Go.Proofs.Ythenenacmiiphaa.oct
open Go Go.Proofs.Ythenenacmiiphaa.Sx
noncomputable section
def iv (n : Nat) : SV := .int .i64 (.var .i64 n)
def xv (n : Nat) : IE := .var .i64 n
def uv (n : Nat) : SV := .int .u64 (.var .u64 n)
def uxv (n : Nat) : IE := .var .u64 n
def bI (L : LV) (i : Nat) : Int := clampK .u8 (intV (celV L (i : Int) 0))
def numF : Nat → Int → List Int
 | 0, n => [n]
 | f + 1, n => if n < 128 then [n] else (128 + n % 128) :: numF f (n / 128)
def rowB (l : List Int) : LV := l.map fun b => [.int .u8 b]
def numL (n : Int) : LV := rowB (numF 9 n)
def twiceN (m : Int) : Int := if m < 0 then 2 * (-1 - m) + 1 else 2 * m
def halfN (u : Int) : Int := if u % 2 = 1 then -1 - u / 2 else u / 2
def badP (L : LV) (i : Nat) : Bool := decide (0 < i ∧ bI L i = 0) || decide (i = 9 ∧ 1 < bI L i)
def stopP (L : LV) (i : Nat) : Bool := badP L i || decide (bI L i < 128)
def valI (L : LV) : Nat → Int
 | 0 => 0
 | i + 1 => valI L i + bI L i % 128 * 128 ^ i
def atR (L : LV) : Nat := Sx.firstP (stopP L) L.length
def okR (L : LV) : Bool := decide (atR L < L.length) && !badP L (atR L)
def rdV (L : LV) : Int := if okR L then valI L (atR L + 1) else 0
def rdN (L : LV) : Int := if okR L then (atR L : Int) + 1 else 0
def rdE (L : LV) : Int := if okR L then 0 else (if atR L < L.length then 111 else 110)
def txtB (L : LV) : Prop := rdE L = 0 ∧ rdV L ≤ (L.length : Int) - rdN L
open Classical in
def txtL (L : LV) : LV := if Typed byteK L then (if txtB L then (L.drop (rdN L).toNat).take (rdV L).toNat else []) else []
open Classical in
def txtN (L : LV) : Int := if txtB L then rdN L + rdV L else 0
open Classical in
def txtE (L : LV) : Int := if txtB L then 0 else (if rdE L = 0 then 110 else rdE L)
def posT (L : LV) : Nat → Nat
 | 0 => (rdN L).toNat
 | j + 1 => posT L j + (txtN (L.drop (posT L j))).toNat
def errT (L : LV) : Nat → Int
 | 0 => 0
 | j + 1 => if errT L j = 0 then txtE (L.drop (posT L j)) else errT L j
def txsT (L : LV) : Nat → LV
 | 0 => []
 | j + 1 => txsT L j ++ [[.string (byteL (txtL (L.drop (posT L j))))]]
def lsE (L : LV) (m : Int) : Int := if rdE L = 0 then (if rdV L ≤ m ∨ rdV L ≤ 0 then errT L (rdV L).toNat else 3) else rdE L
def lsN (L : LV) (m : Int) : Int := if lsE L m = 0 then ((posT L (rdV L).toNat : Nat) : Int) else 0
def lsB (L : LV) (m : Int) : Bool := decide (lsE L m = 0 ∧ 1 ≤ rdV L)
def lsL (L : LV) (m : Int) : LV := if lsB L m then txsT L (rdV L).toNat else []
def texS (l : LV) (k : Nat) : LV := strV (celV l (k : Int) 0)
def catB (l : LV) : Nat → LV
 | 0 => numL (clampK .u64 (l.length : Int))
 | k + 1 => catB l k ++ (numL (clampK .u64 ((texS l k).length : Int)) ++ texS l k)
def sumT (l : LV) : Nat → Nat
 | 0 => 0
 | k + 1 => sumT l k + min (texS l k).length 3001
def fewT (l : LV) : Bool := decide (l.length ≤ 200 ∧ sumT l l.length ≤ 3000)
def shpR (n l s : Int) : Bool := decide (1 ≤ n ∧ n ≤ 64 ∧ 1 ≤ l ∧ l ≤ 8 ∧ 1 ≤ s ∧ s ≤ 4)
def askR (n l s k lo m p t sl u b : Int) : Bool := shpR n l s && decide (1 ≤ k ∧ k ≤ 7 ∧ 0 ≤ lo ∧ lo < l ∧
 (k ≤ 2 → 1 ≤ m ∧ m ≤ 5 ∧ 0 ≤ p ∧ p ≤ 3 ∧ 0 ≤ t ∧ t ≤ 1099511627776 ∧ (k = 2 → t = 0) ∧ sl = 0 ∧ u = 0 ∧ b = 0) ∧
 (3 ≤ k → m = 0 ∧ p = 0 ∧ t = 0 ∧ 0 ≤ sl ∧ sl < s ∧ 1 ≤ u ∧ u ≤ 1099511627776 ∧ (k = 7 → b ≠ 0) ∧ (k ≠ 7 → b = 0)))
def ansR (n l s e sl u st : Int) : Bool := shpR n l s && decide (0 ≤ e ∧ e ≤ 999 ∧ 0 ≤ st ∧ st ≤ 5 ∧ ((u = 0 ∧ sl = 0) ∨ (1 ≤ u ∧ u ≤ 1099511627776 ∧ 0 ≤ sl ∧ sl < s)))
def numC (n : Int) : LV := numL (clampK .u64 n)
def askL (k lo m p t sl u b : Int) : LV := numC k ++ numC lo ++ (if k = 1 then numC m ++ numC p ++ numC t else if k = 2 then numC m ++ numC p else if k = 7 then numC sl ++ numC u ++ numC (twiceN b) else numC sl ++ numC u)
def ansL (e sl u st v : Int) : LV := numC e ++ numC sl ++ numC u ++ numC st ++ numC (twiceN v)
def begB (L M : LV) : Bool := if L.length ≤ M.length then eqV L (M.take L.length) else eqV (L.take M.length) M
def eI (L : LV) : Int := clampK .i64 (rdE L)
def nI (L : LV) : Int := clampK .i64 (rdN L)
def vI (L : LV) : Int := clampK .u64 (rdV L)
def sI2 (L : LV) : Int := clampK .i64 (halfN (vI L))
def q1 (L : LV) : Int := nI L
def q2 (L : LV) : Int := q1 L + nI (L.drop (q1 L).toNat)
def q3 (L : LV) : Int := q2 L + nI (L.drop (q2 L).toNat)
def q4 (L : LV) : Int := q3 L + nI (L.drop (q3 L).toNat)
def q5 (L : LV) : Int := q4 L + nI (L.drop (q4 L).toNat)
def k17 (L : LV) : Bool := !(!decide (vI L = 1) && !decide (vI L = 7))
def e2R (L : LV) : Int := if !decide (eI (L.drop (q1 L).toNat) = 0) then eI (L.drop (q1 L).toNat) else if !decide (eI (L.drop (q2 L).toNat) = 0) then eI (L.drop (q2 L).toNat) else if !decide (eI (L.drop (q3 L).toNat) = 0) then eI (L.drop (q3 L).toNat) else 0
def aM (L : LV) : Int := if decide (vI L ≤ 2) then vI (L.drop (q2 L).toNat) else 0
def aP (L : LV) : Int := if decide (vI L ≤ 2) then vI (L.drop (q3 L).toNat) else 0
def aT (L : LV) : Int := if decide (vI L = 1) then vI (L.drop (q4 L).toNat) else 0
def aS (L : LV) : Int := if decide (vI L ≤ 2) then 0 else vI (L.drop (q2 L).toNat)
def aU (L : LV) : Int := if decide (vI L ≤ 2) then 0 else vI (L.drop (q3 L).toNat)
def aB (L : LV) : Int := if decide (vI L = 7) then sI2 (L.drop (q4 L).toNat) else 0
def aOk (n l s : Int) (L : LV) : Bool := askR n l s (vI L) (vI (L.drop (q1 L).toNat)) (aM L) (aP L) (aT L) (aS L) (aU L) (aB L)
def askE0 (n l s : Int) (L : LV) : Int :=
 if !shpR n l s then 2 else if !decide (eI L = 0) then eI L else if !(decide (1 ≤ vI L) && decide (vI L ≤ 7)) then 280 else
 if !decide (e2R L = 0) then e2R L else if k17 L && !decide (eI (L.drop (q4 L).toNat) = 0) then eI (L.drop (q4 L).toNat) else if aOk n l s L then 0 else 280
def onOk (e x : Int) : Int := if decide (e = 0) then x else 0
def askF (j : Nat) (L : LV) : Int := match j with
 | 0 => vI L
 | 1 => vI (L.drop (q1 L).toNat)
 | 2 => aM L
 | 3 => aP L
 | 4 => aT L
 | 5 => aS L
 | 6 => aU L
 | 7 => aB L
 | _ => if k17 L then q5 L else q4 L
def nOk (n l s : Int) (L : LV) : Bool := ansR n l s (vI L) (vI (L.drop (q1 L).toNat)) (vI (L.drop (q2 L).toNat)) (vI (L.drop (q3 L).toNat))
def ansE0 (n l s : Int) (L : LV) : Int :=
 if !shpR n l s then 2 else if !decide (eI L = 0) then eI L else
 if !decide (e2R L = 0) then e2R L else if !decide (eI (L.drop (q4 L).toNat) = 0) then eI (L.drop (q4 L).toNat) else if nOk n l s L then 0 else 280
def ansF (j : Nat) (L : LV) : Int := match j with
 | 0 => vI L
 | 1 => vI (L.drop (q1 L).toNat)
 | 2 => vI (L.drop (q2 L).toNat)
 | 3 => vI (L.drop (q3 L).toNat)
 | 4 => sI2 (L.drop (q4 L).toNat)
 | _ => q5 L
def fiR (m : Nat) (n l s : Int) (L : LV) : Int :=
 if m = 20 then askE0 n l s L else if m < 30 then onOk (askE0 n l s L) (askF (m - 21) L) else if m = 30 then ansE0 n l s L else onOk (ansE0 n l s L) (ansF (m - 31) L)
def fi : Nat → List AV → Int
 | 2, [.int _ m] => twiceN m
 | 3, [.lst L] => rdV L
 | 4, [.lst L] => rdN L
 | 5, [.lst L] => rdE L
 | 6, [.int _ u] => halfN u
 | 7, [.int _ i] => 128 ^ i.toNat
 | 8, [.lst L] => txtN L
 | 9, [.lst L] => txtE L
 | 10, [.lst L, .int _ m] => lsE L m
 | 11, [.lst L, .int _ m] => lsN L m
 | m, [.int _ n, .int _ l, .int _ s, .lst L] => fiR m n l s L
 | _, _ => 0
def fb : Nat → List AV → Bool
 | 10, [.int _ n, .int _ l, .int _ s] => shpR n l s
 | 11, [.int _ n, .int _ l, .int _ s, .int _ k, .int _ lo, .int _ m, .int _ p, .int _ t, .int _ sl, .int _ u, .int _ b] => askR n l s k lo m p t sl u b
 | 12, [.int _ n, .int _ l, .int _ s, .int _ e, .int _ sl, .int _ u, .int _ st] => ansR n l s e sl u st
 | 1, [.lst L, .int _ m] => lsB L m
 | 2, [.lst L] => fewT L
 | 13, [.lst L, .lst M] => begB L M
 | _, _ => false
def fl : Nat → List AV → LV
 | 7, [.int _ k, .int _ lo, .int _ m, .int _ p, .int _ t, .int _ sl, .int _ u, .int _ b] => askL k lo m p t sl u b
 | 9, [.int _ e, .int _ sl, .int _ u, .int _ st, .int _ v] => ansL e sl u st v
 | 1, [.int _ n] => numL (clampK .u64 n)
 | 3, [.lst L] => txtL L
 | 2, [.lst L, .int _ m] => lsL L m
 | 5, [.lst L] => catB L L.length
 | _, _ => []
def Φ : Fns := ⟨fi, fb, fl, []⟩
def kB : List CK := [.int .u8]
def rB : Roms := [(0, (1, kB))]
def ln (r : Nat) : IE := .len (.rom r)
def sl0 (r : Nat) : SV := .rom r (.lit 0) (.len (.rom r)) none
def sl00 : SV := .rom 0 (.lit 0) (.lit 0) none
def cWorks : Ctr := ⟨31, [], [], [], .bool (.lit true), [], 0, []⟩
def numE (x : IE) : LE := .fn 1 (.int .u64 x .nil)
def rowN (x : IE) : SObj := .rowl (numE x) (.len (numE x)) kB 5 1 1
def resN (x : IE) : SV := .sll 0 1 1 (.lit 0) (.len (numE x)) (some (.len (numE x)))
def resR (x : IE) : SV := .sll 0 1 1 (.lit 0) (.len (numE x)) none
def postN (x : IE) : List BE := [.le (.lit 1) (.len (numE x)), .le (.len (numE x)) (.lit 10)]
def twE (x : IE) : IE := .fn .u64 2 (.int .i64 x .nil)
def cNumber : Ctr := ⟨123, [uv 1], [], [], resN (uxv 1), [(0, rowN (uxv 1))], 2, postN (uxv 1)⟩
def cSigned : Ctr := ⟨124, [iv 1], [], [], resN (twE (xv 1)), [(0, rowN (twE (xv 1)))], 2, postN (twE (xv 1))⟩
def cRNumber : Ctr := ⟨112, [uv 1], [], [], resR (uxv 1), [(0, rowN (uxv 1))], 2, postN (uxv 1)⟩
def cTwice : Ctr := ⟨113, [iv 1], [], [], .int .u64 (twE (xv 1)), [], 0, []⟩
def cRSigned : Ctr := ⟨75, [iv 1], [], [], resR (twE (xv 1)), [(0, rowN (twE (xv 1)))], 2, postN (twE (xv 1))⟩
def rdA : AL := .lst (.rom 0) .nil
def rdVE : IE := .fn .u64 3 rdA
def rdNE : IE := .fn .i64 4 rdA
def rdEE : IE := .fn .i64 5 rdA
def halfE (x : IE) : IE := .fn .i64 6 (.int .u64 x .nil)
def postR : List BE := [.le (.lit 0) rdNE, .le rdNE (ln 0)]
def cRead : Ctr := ⟨120, [sl0 0], rB, [], .tup [.int .u64 rdVE, .int .i64 rdNE, .int .i64 rdEE], [], 0, postR⟩
def cRRead : Ctr := ⟨115, [sl0 0], rB, [], .tup [.int .u64 rdVE, .int .i64 rdNE, .int .i64 rdEE], [], 0, postR⟩
def cPower : Ctr := ⟨137, [iv 1], [], [.le (.lit 0) (xv 1), .le (xv 1) (.lit 9)], .int .u64 (.fn .u64 7 (.int .i64 (xv 1) .nil)), [], 0, []⟩
def cSRead : Ctr := ⟨122, [sl0 0], rB, [], .tup [.int .i64 (halfE rdVE), .int .i64 rdNE, .int .i64 rdEE], [], 0, postR⟩
def cRSRead : Ctr := ⟨116, [sl0 0], rB, [], .tup [.int .i64 (halfE rdVE), .int .i64 rdNE, .int .i64 rdEE], [], 0, postR⟩
end
theorem pi2 (m : Int) : Φ.i 2 [.int .i64 m] = twiceN m := rfl
theorem pi3 (L : LV) : Φ.i 3 [.lst L] = rdV L := rfl
theorem pi4 (L : LV) : Φ.i 4 [.lst L] = rdN L := rfl
theorem pi5 (L : LV) : Φ.i 5 [.lst L] = rdE L := rfl
theorem pi6 (u : Int) : Φ.i 6 [.int .u64 u] = halfN u := rfl
theorem pi7 (i : Int) : Φ.i 7 [.int .i64 i] = 128 ^ i.toNat := rfl
theorem pi8 (L : LV) : Φ.i 8 [.lst L] = txtN L := rfl
theorem pi9 (L : LV) : Φ.i 9 [.lst L] = txtE L := rfl
theorem pi10 (L : LV) (m : Int) : Φ.i 10 [.lst L, .int .i64 m] = lsE L m := rfl
theorem pi11 (L : LV) (m : Int) : Φ.i 11 [.lst L, .int .i64 m] = lsN L m := rfl
theorem pb1 (L : LV) (m : Int) : Φ.b 1 [.lst L, .int .i64 m] = lsB L m := rfl
theorem pl2 (L : LV) (m : Int) : Φ.l 2 [.lst L, .int .i64 m] = lsL L m := rfl
theorem pb13 (L M : LV) : Φ.b 13 [.lst L, .lst M] = begB L M := rfl
theorem pb2 (L : LV) : Φ.b 2 [.lst L] = fewT L := rfl
theorem pl5 (L : LV) : Φ.l 5 [.lst L] = catB L L.length := rfl
theorem pl3 (L : LV) : Φ.l 3 [.lst L] = txtL L := rfl
theorem pl1 (n : Int) : Φ.l 1 [.int .u64 n] = numL (clampK .u64 n) := rfl
end Go.Proofs.Ythenenacmiiphaa.oct
