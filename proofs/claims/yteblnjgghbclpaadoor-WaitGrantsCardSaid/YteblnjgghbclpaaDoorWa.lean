/- Layer wait: words. No condition. -/
import Derived.Test.YteblnjgghbclpaaDoorSw
set_option linter.unusedVariables false
set_option linter.unusedSimpArgs false
set_option linter.deprecated false
namespace Go.Proofs.YteblnjgghbclpaaDoor.wt
open Go Go.Proofs.YteblnjgghbclpaaDoor.Sx
noncomputable section
def iv (n : Nat) : SV := .int .i64 (.var .i64 n)
def xv (n : Nat) : IE := .var .i64 n
def fitsN (a b : Int) : Bool := (decide (a = 0) || decide (b = 0)) || (!(decide (a = 5) || decide (b = 5)) && ((decide (a = 1) || decide (b = 1)) || (decide (a = b) && !decide (a = 4))))
/-- Whether one may wait. -/
def mayW (s u m p a : Int) : Bool := decide (0 ≤ s ∧ s ≤ 255 ∧ 1 ≤ u ∧ u ≤ 1099511627776 ∧ 1 ≤ m ∧ m ≤ 5 ∧ 0 ≤ p ∧ p ≤ 3 ∧ 0 ≤ a ∧ a ≤ 64)
def mayAt (l : LV) (i : Nat) : Bool := mayW (atI l i 0) (atI l i 1) (atI l i 2) (atI l i 3) (atI l i 4)
/-- The first place of a site: n, if it is not among the first n. -/
def findN (l : LV) (s : Int) : Nat → Nat := Sx.firstP fun i => decide (atI l i 0 = s)
/-- The first n may wait, each site once. -/
def preN (l : LV) : Nat → Bool
  | 0 => true
  | n + 1 => preN l n && (mayAt l n && decide (findN l (atI l n 0) n = n))
/-- A queue. -/
def queueL (l : LV) : Bool := preN l l.length
/-- One more behind; the one at place f away; all the same but ages ahead of a place. -/
def wL (s u m p a : Int) : LV := [[.int .i64 s, .int .i64 u, .int .i64 m, .int .i64 p, .int .i64 a]]
def cutL (R : LV) (f : Nat) : LV := R.take f ++ R.drop (f + 1)
def ageR (R : LV) (m : Int) (i : Nat) : List Value := [.int .i64 (atI R i 0), .int .i64 (atI R i 1), .int .i64 (atI R i 2), .int .i64 (atI R i 3), .int .i64 (if fitsN (atI R i 2) m then atI R i 4 else min (atI R i 4 + 1) 64)]
/-- The first k of those ahead of place f have let it go ahead. -/
def ageN (R : LV) (f : Nat) : Nat → LV
  | 0 => []
  | k + 1 => ageN R f k ++ [ageR R (atI R f 2) k]
def grantL (R : LV) (f : Nat) : LV := ageN R f f ++ R.drop (f + 1)
/-- What comes behind one more, one less: errors, rows. -/
def addE (l : LV) (s u m p a : Int) : Int := if queueL l && mayW s u m p a then (if findN l s l.length = l.length then 0 else 220) else 2
def addL (l : LV) (s u m p a : Int) : LV := if addE l s u m p a = 0 then l ++ wL s u m p a else []
def dropE (l : LV) (s : Int) : Int := if queueL l then (if findN l s l.length = l.length then 5 else 0) else 2
def dropL (l : LV) (s : Int) : LV := if dropE l s = 0 then cutL l (findN l s l.length) else []
def grantE (l : LV) (f : Int) : Int := if queueL l then (if 0 ≤ f ∧ f < (l.length : Int) then 0 else 4) else 2
def grantM (l : LV) (f : Int) : LV := if grantE l f = 0 then grantL l f.toNat else []
def fi : Nat → List AV → Int
  | 7, [.lst l, .int _ f] => grantE l f
  | 5, [.lst l, .int _ s, .int _ u, .int _ m, .int _ p, .int _ a] => addE l s u m p a
  | 6, [.lst l, .int _ s] => dropE l s
  | 2, [.lst l, .int _ s] => findN l s l.length
  | _, _ => 0
def fb : Nat → List AV → Bool
  | 1, [.int _ a, .int _ b] => fitsN a b
  | 2, [.int _ s, .int _ u, .int _ m, .int _ p, .int _ a] => mayW s u m p a
  | 4, [.lst l] => queueL l
  | _, _ => false
def fl : Nat → List AV → LV
  | 4, [.lst l, .int _ f] => grantM l f
  | 6, [.lst l, .int _ s, .int _ u, .int _ m, .int _ p, .int _ a] => addL l s u m p a
  | 8, [.lst l, .int _ s] => dropL l s
  | _, _ => []
def tabF : List Value := [true, true, true, true, true, true, true, true, true, true, true, false, true, true, true, false, false, false, true, true, false, true, false, false, true, true, false, false, false, false, true, false, false, false, false, false].map Value.bool
def Φ : Fns := ⟨fi, fb, fl, [(0, tabF)]⟩
def ks5 : List CK := [.int .i64, .int .i64, .int .i64, .int .i64, .int .i64]
def r5 : Roms := [(0, (5, ks5))]
def r55 : Roms := [(0, (5, ks5)), (1, (5, ks5))]
def ln (r : Nat) : IE := .len (.rom r)
def sl0 (r : Nat) : SV := .rom r (.lit 0) (.len (.rom r)) none
def sl00 : SV := .rom 0 (.lit 0) (.lit 0) none
def fitF (a b : IE) : BE := .fn 1 (.int .i64 a (.int .i64 b .nil))
def isMode (x : IE) : BE := .and (.le (.lit 0) x) (.le x (.lit 5))
def mayF (s u m p a : IE) : BE := .fn 2 (.int .i64 s (.int .i64 u (.int .i64 m (.int .i64 p (.int .i64 a .nil)))))
def queueF (l : LE) : BE := .fn 4 (.lst l .nil)
def pW : SV := .agg [iv 1, iv 2, iv 3, iv 4, iv 5]
def F2 : IE := .fn .i64 2 (.lst (.rom 0) (.int .i64 (xv 1) .nil))
def few : BE := .le (ln 0) (.lit 1000)
def cFits03 : Ctr := ⟨35, [iv 1, iv 2], [], [], .bool (fitF (xv 1) (xv 2)), [], 0, []⟩
def cRight03 : Ctr := ⟨53, [iv 1], [], [], .bool (isMode (xv 1)), [], 0, []⟩
def cMayR : Ctr := ⟨62, [pW], [], [], .bool (mayF (xv 1) (xv 2) (xv 3) (xv 4) (xv 5)), [], 0, []⟩
def cMayP : Ctr := ⟨58, [pW], [], [], .bool (mayF (xv 1) (xv 2) (xv 3) (xv 4) (xv 5)), [], 0, []⟩
/-- fits, of modes that may be. -/
def cFitsM : Ctr := ⟨73, [iv 1, iv 2], [], [.le (.lit 0) (xv 1), .le (xv 1) (.lit 5), .le (.lit 0) (xv 2), .le (xv 2) (.lit 5)], .bool (fitF (xv 1) (xv 2)), [], 0, []⟩
def cQueueP : Ctr := ⟨57, [sl0 0], r5, [few], .bool (queueF (.rom 0)), [], 0, []⟩
def cQueueR : Ctr := ⟨25, [sl0 0], r5, [few], .bool (queueF (.rom 0)), [], 0, []⟩
def cRFin : Ctr := ⟨26, [sl0 0, iv 1], r5, [few, .not (.le (ln 0) F2)], .int .i64 F2, [], 0, [.le (.lit 0) F2, .le F2 (ln 0)]⟩
def cRFout : Ctr := ⟨26, [sl0 0, iv 1], r5, [few, .le (ln 0) F2], .int .i64 (.lit (-1)), [], 0, []⟩
def cFindIn : Ctr := ⟨19, [sl0 0, iv 1], r5, [few, queueF (.rom 0), .not (.le (ln 0) F2)], .tup [.int .i64 F2, .bool (.lit true)], [], 0, [.le (.lit 0) F2, .le F2 (ln 0)]⟩
def cFindOut : Ctr := ⟨19, [sl0 0, iv 1], r5, [few, queueF (.rom 0), .le (ln 0) F2], .tup [.int .i64 (.lit 0), .bool (.lit false)], [], 0, []⟩
def cFindNo : Ctr := ⟨19, [sl0 0, iv 1], r5, [few, .not (queueF (.rom 0))], .tup [.int .i64 (.lit 0), .bool (.lit false)], [], 0, []⟩
def addA : AL := .lst (.rom 0) (.int .i64 (xv 1) (.int .i64 (xv 2) (.int .i64 (xv 3) (.int .i64 (xv 4) (.int .i64 (xv 5) .nil)))))
def addEE : IE := .fn .i64 5 addA
def addLE : LE := .fn 6 addA
def dropA : AL := .lst (.rom 0) (.int .i64 (xv 1) .nil)
def dropEE : IE := .fn .i64 6 dropA
def dropLE : LE := .fn 8 dropA
def rowW (l : LE) : SObj := .rowl l (.len l) ks5 25 1 5
def sllW (l : LE) : SV := .sll 0 1 5 (.lit 0) (.len l) none
def nilS : SV := .const (.slice none 0 0)
def postW (l : LE) : List BE := [.le (.lit 1) (.len l), .le (.len l) (.lit 1001)]
def preA : List BE := [few, .le (.lit 1) (ln 0)]
def cAddOk : Ctr := ⟨17, [sl0 0, pW], r5, preA ++ [.eq addEE (.lit 0)], .tup [sllW addLE, .int .i64 (.lit 0)], [(0, rowW addLE)], 2, postW addLE⟩
def cAddNo : Ctr := ⟨17, [sl0 0, pW], r5, preA ++ [.not (.eq addEE (.lit 0))], .tup [nilS, .int .i64 addEE], [], 0, []⟩
def cRAddOk : Ctr := ⟨20, [sl0 0, pW], r5, preA ++ [.eq addEE (.lit 0)], .tup [sllW addLE, .int .i64 (.lit 0)], [(0, rowW addLE)], 2, postW addLE⟩
def cRAddNo : Ctr := ⟨20, [sl0 0, pW], r5, preA ++ [.not (.eq addEE (.lit 0))], .tup [nilS, .int .i64 addEE], [], 0, []⟩
def preD : List BE := [few, .le (.lit 2) (ln 0)]
def cDropOk : Ctr := ⟨18, [sl0 0, iv 1], r5, preD ++ [.eq dropEE (.lit 0)], .tup [sllW dropLE, .int .i64 (.lit 0)], [(0, rowW dropLE)], 2, postW dropLE⟩
def cDropNo : Ctr := ⟨18, [sl0 0, iv 1], r5, preD ++ [.not (.eq dropEE (.lit 0))], .tup [nilS, .int .i64 dropEE], [], 0, []⟩
def cRDropOk : Ctr := ⟨21, [sl0 0, iv 1], r5, preD ++ [.eq dropEE (.lit 0)], .tup [sllW dropLE, .int .i64 (.lit 0)], [(0, rowW dropLE)], 2, postW dropLE⟩
def cRDropNo : Ctr := ⟨21, [sl0 0, iv 1], r5, preD ++ [.not (.eq dropEE (.lit 0))], .tup [nilS, .int .i64 dropEE], [], 0, []⟩
def grEE : IE := .fn .i64 7 dropA
def grLE : LE := .fn 4 dropA
def celW (j : Nat) : SV := .int .i64 (.cel .i64 (.rom 0) (xv 1) j)
def hadW : SV := .agg [celW 0, celW 1, celW 2, celW 3, celW 4]
def zI : SV := .int .i64 (.lit 0)
def zW : SV := .agg [zI, zI, zI, zI, zI]
def cGrOk : Ctr := ⟨32, [sl0 0, iv 1], r5, preD ++ [.eq grEE (.lit 0)], .tup [sllW grLE, hadW, .int .i64 (.lit 0)], [(0, rowW grLE)], 2, postW grLE⟩
def cGrNo : Ctr := ⟨32, [sl0 0, iv 1], r5, preD ++ [.not (.eq grEE (.lit 0))], .tup [nilS, zW, .int .i64 grEE], [], 0, []⟩
def cRGrOk : Ctr := ⟨33, [sl0 0, iv 1], r5, preD ++ [.eq grEE (.lit 0)], .tup [sllW grLE, hadW, .int .i64 (.lit 0)], [(0, rowW grLE)], 2, postW grLE⟩
def cRGrNo : Ctr := ⟨33, [sl0 0, iv 1], r5, preD ++ [.not (.eq grEE (.lit 0))], .tup [nilS, zW, .int .i64 grEE], [], 0, []⟩
def cSame : Ctr := ⟨22, [sl0 0, sl0 1], r55, [], .bool (.leq (.rom 0) (.rom 1)), [], 0, []⟩
def cWorks : Ctr := ⟨15, [], [], [], .bool (.lit true), [], 0, []⟩
def cAdds : Ctr := ⟨3, [sl0 0, pW, iv 6], r5, [.le (.lit 2) (ln 0)], .bool (.lit true), [], 0, []⟩
def cAdds1 : Ctr := ⟨3, [sl0 0, pW, iv 6], r5, [.eq (ln 0) (.lit 1)], .bool (.lit true), [], 0, []⟩
def cAdds0 : Ctr := ⟨3, [sl00, pW, iv 6], r5, [], .bool (.lit true), [], 0, []⟩
def cGrants : Ctr := ⟨6, [sl0 0, iv 1], r5, [.le (.lit 2) (ln 0)], .bool (.lit true), [], 0, []⟩
def cGrants1 : Ctr := ⟨6, [sl0 0, iv 1], r5, [.eq (ln 0) (.lit 1)], .bool (.lit true), [], 0, []⟩
def cGrants0 : Ctr := ⟨6, [sl00, iv 1], r5, [], .bool (.lit true), [], 0, []⟩
end
theorem pi2 (l : LV) (s : Int) : Φ.i 2 [.lst l, .int .i64 s] = (findN l s l.length : Int) := rfl
theorem pb1 (a b : Int) : Φ.b 1 [.int .i64 a, .int .i64 b] = fitsN a b := rfl
theorem pb2 (s u m p a : Int) : Φ.b 2 [.int .i64 s, .int .i64 u, .int .i64 m, .int .i64 p, .int .i64 a] = mayW s u m p a := rfl
theorem pb4 (l : LV) : Φ.b 4 [.lst l] = queueL l := rfl
theorem pi5 (l : LV) (s u m p a : Int) : Φ.i 5 [.lst l, .int .i64 s, .int .i64 u, .int .i64 m, .int .i64 p, .int .i64 a] = addE l s u m p a := rfl
theorem pi6 (l : LV) (s : Int) : Φ.i 6 [.lst l, .int .i64 s] = dropE l s := rfl
theorem pl6 (l : LV) (s u m p a : Int) : Φ.l 6 [.lst l, .int .i64 s, .int .i64 u, .int .i64 m, .int .i64 p, .int .i64 a] = addL l s u m p a := rfl
theorem pl8 (l : LV) (s : Int) : Φ.l 8 [.lst l, .int .i64 s] = dropL l s := rfl
theorem pl4 (l : LV) (f : Int) : Φ.l 4 [.lst l, .int .i64 f] = grantM l f := rfl
theorem pi7 (l : LV) (f : Int) : Φ.i 7 [.lst l, .int .i64 f] = grantE l f := rfl
theorem fits_iff (a b : Int) : (fitsN a b = true) = ((a = 0 ∨ b = 0) ∨ (¬ (a = 5 ∨ b = 5) ∧ ((a = 1 ∨ b = 1) ∨ (a = b ∧ ¬ a = 4)))) := by simp [fitsN]
theorem may_iff (s u m p a : Int) : (mayW s u m p a = true) = (0 ≤ s ∧ s ≤ 255 ∧ 1 ≤ u ∧ u ≤ 1099511627776 ∧ 1 ≤ m ∧ m ≤ 5 ∧ 0 ≤ p ∧ p ≤ 3 ∧ 0 ≤ a ∧ a ≤ 64) := by simp [mayW]
end Go.Proofs.YteblnjgghbclpaaDoor.wt
