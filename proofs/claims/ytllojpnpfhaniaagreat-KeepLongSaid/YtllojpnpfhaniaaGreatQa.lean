/- Layer seal: words (octet's numbers among them). No condition. -/
import Derived.Test.YtllojpnpfhaniaaGreatSw
set_option linter.unusedVariables false
set_option linter.unusedSimpArgs false
set_option linter.deprecated false
namespace Go.Proofs.YtllojpnpfhaniaaGreat.oct
open Go Go.Proofs.YtllojpnpfhaniaaGreat.Sx
noncomputable section
def iv (n : Nat) : SV := .int .i64 (.var .i64 n)
def xv (n : Nat) : IE := .var .i64 n
def uv (n : Nat) : SV := .int .u64 (.var .u64 n)
def uxv (n : Nat) : IE := .var .u64 n
def bI (L : LV) (i : Nat) : Int := clampK .u8 (intV (celV L (i : Int) 0))
def numF : Nat → Int → List Int
 | 0, n => [n]
 | f + 1, n => if n < 128 then [n] else (128 + n % 128) :: numF f (n / 128)
def rowB (l : List Int) : LV := l.map fun b => [.int .u8 b]
def numL (n : Int) : LV := rowB (numF 9 n)
def twiceN (m : Int) : Int := if m < 0 then 2 * (-1 - m) + 1 else 2 * m
def halfN (u : Int) : Int := if u % 2 = 1 then -1 - u / 2 else u / 2
def badP (L : LV) (i : Nat) : Bool := decide (0 < i ∧ bI L i = 0) || decide (i = 9 ∧ 1 < bI L i)
def stopP (L : LV) (i : Nat) : Bool := badP L i || decide (bI L i < 128)
def valI (L : LV) : Nat → Int
 | 0 => 0
 | i + 1 => valI L i + bI L i % 128 * 128 ^ i
def atR (L : LV) : Nat := Sx.firstP (stopP L) L.length
def okR (L : LV) : Bool := decide (atR L < L.length) && !badP L (atR L)
def rdV (L : LV) : Int := if okR L then valI L (atR L + 1) else 0
def rdN (L : LV) : Int := if okR L then (atR L : Int) + 1 else 0
def rdE (L : LV) : Int := if okR L then 0 else (if atR L < L.length then 111 else 110)
def stp (w : Nat) : Nat := w / 2 ^^^ (if w % 2 = 1 then 3988292384 else 0)
def stn : Nat → Nat → Nat
 | 0, w => w
 | k + 1, w => stn k (stp w)
def crcT (L : LV) : Nat → Nat
 | 0 => 4294967295
 | k + 1 => stn 8 (crcT L k ^^^ (bI L k).toNat)
def sumI (L : LV) : Int := 4294967295 - (crcT L L.length : Nat)
def fourL (s : Int) : LV := rowB [s / 16777216 % 256, s / 65536 % 256, s / 256 % 256, s % 256]
def headL (L : LV) : LV := numL (clampK .u64 (L.length : Int)) ++ L
def sealL (L : LV) : LV := headL L ++ fourL (sumI (headL L))
def tabL (k : Nat) : LV := (List.range 256).map fun j => [.int .u32 (if j < k then ((stn 8 j : Nat) : Int) else 0)]
def endN (L : LV) : Nat := (rdN L + rdV L).toNat
def sumOk (L : LV) : Bool := eqV ((L.drop (endN L)).take 4) (fourL (sumI (L.take (endN L))))
def opE (L : LV) : Int := if rdE L ≠ 0 then rdE L else if 65536 < rdV L then 3 else if (L.length : Int) < rdN L + rdV L + 4 then 110 else if sumOk L then 0 else 120
def opN (L : LV) : Int := if opE L = 0 then rdN L + rdV L + 4 else 0
def opL (L : LV) : LV := if opE L = 0 then (L.drop (rdN L).toNat).take (rdV L).toNat else []
def fi : Nat → List AV → Int
 | 2, [.int _ m] => twiceN m
 | 3, [.lst L] => rdV L
 | 4, [.lst L] => rdN L
 | 5, [.lst L] => rdE L
 | 6, [.int _ u] => halfN u
 | 7, [.int _ i] => 128 ^ i.toNat
 | 20, [.lst L] => sumI L
 | 21, [.lst L] => opE L
 | 22, [.lst L] => opN L
 | _, _ => 0
def fb : Nat → List AV → Bool
 | _, _ => false
open Classical in
def fl : Nat → List AV → LV
 | 1, [.int _ n] => numL (clampK .u64 n)
 | 3, [.lst L] => if Typed byteK L then sealL L else List.replicate (L.length + 5) [.int .u8 0]
 | 2, [.int _ k] => tabL k.toNat
 | 5, [.lst L] => if Typed byteK L then opL L else []
 | 7, [.lst L] => fourL (sumI (headL L))
 | _, _ => []
def Φ : Fns := ⟨fi, fb, fl, []⟩
def kB : List CK := [.int .u8]
def rB : Roms := [(0, (1, kB))]
def ln (r : Nat) : IE := .len (.rom r)
def sl0 (r : Nat) : SV := .rom r (.lit 0) (.len (.rom r)) none
def sl00 : SV := .rom 0 (.lit 0) (.lit 0) none
def cWorks : Ctr := ⟨10, [], [], [], .bool (.lit true), [], 0, []⟩
def numE (x : IE) : LE := .fn 1 (.int .u64 x .nil)
def rowN (x : IE) : SObj := .rowl (numE x) (.len (numE x)) kB 5 1 1
def resN (x : IE) : SV := .sll 0 1 1 (.lit 0) (.len (numE x)) (some (.len (numE x)))
def resR (x : IE) : SV := .sll 0 1 1 (.lit 0) (.len (numE x)) none
def postN (x : IE) : List BE := [.le (.lit 1) (.len (numE x)), .le (.len (numE x)) (.lit 10)]
def cNumber : Ctr := ⟨77, [uv 1], [], [], resN (uxv 1), [(0, rowN (uxv 1))], 2, postN (uxv 1)⟩
def cRNumber : Ctr := ⟨22, [uv 1], [], [], resR (uxv 1), [(0, rowN (uxv 1))], 2, postN (uxv 1)⟩
def rdA : AL := .lst (.rom 0) .nil
def rdVE : IE := .fn .u64 3 rdA
def rdNE : IE := .fn .i64 4 rdA
def rdEE : IE := .fn .i64 5 rdA
def halfE (x : IE) : IE := .fn .i64 6 (.int .u64 x .nil)
def postR : List BE := [.le (.lit 0) rdNE, .le rdNE (ln 0), .le rdNE (.lit 10)]
def cRead : Ctr := ⟨67, [sl0 0], rB, [], .tup [.int .u64 rdVE, .int .i64 rdNE, .int .i64 rdEE], [], 0, postR⟩
def cRRead : Ctr := ⟨31, [sl0 0], rB, [], .tup [.int .u64 rdVE, .int .i64 rdNE, .int .i64 rdEE], [], 0, postR⟩
def cPower : Ctr := ⟨42, [iv 1], [], [.le (.lit 0) (xv 1), .le (xv 1) (.lit 9)], .int .u64 (.fn .u64 7 (.int .i64 (xv 1) .nil)), [], 0, []⟩
def cRSum : Ctr := ⟨13, [sl0 0], rB, [], .int .u32 (.fn .u32 20 rdA), [], 0, []⟩
end
theorem pi2 (m : Int) : Φ.i 2 [.int .i64 m] = twiceN m := rfl
theorem pi3 (L : LV) : Φ.i 3 [.lst L] = rdV L := rfl
theorem pi4 (L : LV) : Φ.i 4 [.lst L] = rdN L := rfl
theorem pi5 (L : LV) : Φ.i 5 [.lst L] = rdE L := rfl
theorem pi6 (u : Int) : Φ.i 6 [.int .u64 u] = halfN u := rfl
theorem pi7 (i : Int) : Φ.i 7 [.int .i64 i] = 128 ^ i.toNat := rfl
theorem pi20 (L : LV) : Φ.i 20 [.lst L] = sumI L := rfl
theorem pi21 (L : LV) : Φ.i 21 [.lst L] = opE L := rfl
theorem pi22 (L : LV) : Φ.i 22 [.lst L] = opN L := rfl
open Classical in
theorem pl4 (L : LV) : Φ.l 5 [.lst L] = if Typed byteK L then opL L else [] := rfl
open Classical in
theorem pl3 (L : LV) : Φ.l 3 [.lst L] = if Typed byteK L then sealL L else List.replicate (L.length + 5) [.int .u8 0] := rfl
theorem pl7 (L : LV) : Φ.l 7 [.lst L] = fourL (sumI (headL L)) := rfl
theorem pl2 (k : Int) : Φ.l 2 [.int .i64 k] = tabL k.toNat := rfl
theorem pl1 (n : Int) : Φ.l 1 [.int .u64 n] = numL (clampK .u64 n) := rfl
end Go.Proofs.YtllojpnpfhaniaaGreat.oct
