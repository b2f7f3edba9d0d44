/- Layer link: what is told ahead, second part. No condition. -/
import Derived.Test.YtjgkaimgocnkmaaKc
set_option linter.unusedVariables false
set_option linter.unusedSimpArgs false
set_option linter.deprecated false
namespace Go.Proofs.Ytjgkaimgocnkmaa.link
open Go Go.Proofs.Ytjgkaimgocnkmaa.Sx
noncomputable section
def vwR0 : List VW := [VW.cut 1 [BE.le (IE.var .i64 1) (IE.lit 1099511627776), BE.le (IE.lit 1) (IE.var .i64 1), BE.eq (IE.len (LE.rom 1)) (IE.len (LE.rom 0)), BE.le (IE.len (LE.rom 0)) (IE.lit 64), BE.le (IE.lit 1) (IE.len (LE.rom 0)), BE.lit true] { i := [(.i64, 1001, IE.lit 0)], b := [], l := [], v := [], a := [], r := [] }, VW.done [(BE.le (IE.var .i64 1) (IE.lit 1099511627776)).not, BE.le (IE.lit 1) (IE.var .i64 1), BE.eq (IE.len (LE.rom 1)) (IE.len (LE.rom 0)), BE.le (IE.len (LE.rom 0)) (IE.lit 64), BE.le (IE.lit 1) (IE.len (LE.rom 0)), BE.lit true] (some []), VW.done [(BE.le (IE.lit 1) (IE.var .i64 1)).not, BE.eq (IE.len (LE.rom 1)) (IE.len (LE.rom 0)), BE.le (IE.len (LE.rom 0)) (IE.lit 64), BE.le (IE.lit 1) (IE.len (LE.rom 0)), BE.lit true] (some []), VW.done [(BE.eq (IE.len (LE.rom 1)) (IE.len (LE.rom 0))).not, BE.le (IE.len (LE.rom 0)) (IE.lit 64), BE.le (IE.lit 1) (IE.len (LE.rom 0)), BE.lit true] (some []), VW.done [(BE.le (IE.len (LE.rom 0)) (IE.lit 64)).not, BE.le (IE.lit 1) (IE.len (LE.rom 0)), BE.lit true] (some []), VW.done [(BE.le (IE.lit 1) (IE.len (LE.rom 0))).not, BE.lit true] (some [])]
def vwR1 : List VW := [VW.done [BE.le (IE.len (LE.rom 0)) (IE.var .i64 1001), BE.lit true, BE.le (IE.lit 1) (IE.var .i64 1), BE.le (IE.var .i64 1) (IE.lit 1099511627776), BE.le (IE.lit 1) (IE.len (LE.rom 0)), BE.le (IE.len (LE.rom 0)) (IE.lit 64), BE.eq (IE.len (LE.rom 1)) (IE.len (LE.rom 0)), BE.le (IE.lit 0) (IE.var .i64 1001), BE.le (IE.var .i64 1001) (IE.len (LE.rom 0))] (some [G.b (((BE.le (IE.lit 1) (IE.var .i64 1)).and (BE.le (IE.var .i64 1) (IE.lit 1099511627776))).and (((BE.le (IE.lit 1) (IE.len (LE.rom 0))).and (BE.le (IE.len (LE.rom 0)) (IE.lit 64))).and ((BE.eq (IE.len (LE.rom 1)) (IE.len (LE.rom 0))).and ((BE.fn 1 (AL.lst (LE.rom 0) AL.nil)).and (BE.fn 2 (AL.lst (LE.rom 1) AL.nil)))))) (BE.lit true)]), VW.cut 1 [BE.fn 4 (AL.int .i64 (IE.cel .i64 (LE.rom 1) (IE.var .i64 1001) 0) (AL.int .i64 (IE.cel .i64 (LE.rom 1) (IE.var .i64 1001) 1) AL.nil)), BE.le (IE.cel .i64 (LE.rom 0) (IE.var .i64 1001) 0) (IE.lit 1099511627776), BE.le (IE.lit 0) (IE.cel .i64 (LE.rom 0) (IE.var .i64 1001) 0), (BE.le (IE.len (LE.rom 0)) (IE.var .i64 1001)).not, BE.lit true, BE.le (IE.lit 1) (IE.var .i64 1), BE.le (IE.var .i64 1) (IE.lit 1099511627776), BE.le (IE.lit 1) (IE.len (LE.rom 0)), BE.le (IE.len (LE.rom 0)) (IE.lit 64), BE.eq (IE.len (LE.rom 1)) (IE.len (LE.rom 0)), BE.le (IE.lit 0) (IE.var .i64 1001), BE.le (IE.var .i64 1001) (IE.len (LE.rom 0))] { i := [(.i64, 1001, (IE.var .i64 1001).add (IE.lit 1))], b := [], l := [], v := [], a := [], r := [] }, VW.cut 1 [BE.eq (IE.cel .i64 (LE.rom 1) (IE.var .i64 1001) 1) (IE.lit 0), BE.eq (IE.cel .i64 (LE.rom 1) (IE.var .i64 1001) 0) (IE.lit 0), (BE.fn 4 (AL.int .i64 (IE.cel .i64 (LE.rom 1) (IE.var .i64 1001) 0) (AL.int .i64 (IE.cel .i64 (LE.rom 1) (IE.var .i64 1001) 1) AL.nil))).not, BE.le (IE.cel .i64 (LE.rom 0) (IE.var .i64 1001) 0) (IE.lit 1099511627776), BE.le (IE.lit 0) (IE.cel .i64 (LE.rom 0) (IE.var .i64 1001) 0), (BE.le (IE.len (LE.rom 0)) (IE.var .i64 1001)).not, BE.lit true, BE.le (IE.lit 1) (IE.var .i64 1), BE.le (IE.var .i64 1) (IE.lit 1099511627776), BE.le (IE.lit 1) (IE.len (LE.rom 0)), BE.le (IE.len (LE.rom 0)) (IE.lit 64), BE.eq (IE.len (LE.rom 1)) (IE.len (LE.rom 0)), BE.le (IE.lit 0) (IE.var .i64 1001), BE.le (IE.var .i64 1001) (IE.len (LE.rom 0))] { i := [(.i64, 1001, (IE.var .i64 1001).add (IE.lit 1))], b := [], l := [], v := [], a := [], r := [] }, VW.done [(BE.eq (IE.cel .i64 (LE.rom 1) (IE.var .i64 1001) 1) (IE.lit 0)).not, BE.eq (IE.cel .i64 (LE.rom 1) (IE.var .i64 1001) 0) (IE.lit 0), (BE.fn 4 (AL.int .i64 (IE.cel .i64 (LE.rom 1) (IE.var .i64 1001) 0) (AL.int .i64 (IE.cel .i64 (LE.rom 1) (IE.var .i64 1001) 1) AL.nil))).not, BE.le (IE.cel .i64 (LE.rom 0) (IE.var .i64 1001) 0) (IE.lit 1099511627776), BE.le (IE.lit 0) (IE.cel .i64 (LE.rom 0) (IE.var .i64 1001) 0), (BE.le (IE.len (LE.rom 0)) (IE.var .i64 1001)).not, BE.lit true, BE.le (IE.lit 1) (IE.var .i64 1), BE.le (IE.var .i64 1) (IE.lit 1099511627776), BE.le (IE.lit 1) (IE.len (LE.rom 0)), BE.le (IE.len (LE.rom 0)) (IE.lit 64), BE.eq (IE.len (LE.rom 1)) (IE.len (LE.rom 0)), BE.le (IE.lit 0) (IE.var .i64 1001), BE.le (IE.var .i64 1001) (IE.len (LE.rom 0))] (some [G.b (((BE.le (IE.lit 1) (IE.var .i64 1)).and (BE.le (IE.var .i64 1) (IE.lit 1099511627776))).and (((BE.le (IE.lit 1) (IE.len (LE.rom 0))).and (BE.le (IE.len (LE.rom 0)) (IE.lit 64))).and ((BE.eq (IE.len (LE.rom 1)) (IE.len (LE.rom 0))).and ((BE.fn 1 (AL.lst (LE.rom 0) AL.nil)).and (BE.fn 2 (AL.lst (LE.rom 1) AL.nil)))))) (BE.lit false)]), VW.done [(BE.eq (IE.cel .i64 (LE.rom 1) (IE.var .i64 1001) 0) (IE.lit 0)).not, (BE.fn 4 (AL.int .i64 (IE.cel .i64 (LE.rom 1) (IE.var .i64 1001) 0) (AL.int .i64 (IE.cel .i64 (LE.rom 1) (IE.var .i64 1001) 1) AL.nil))).not, BE.le (IE.cel .i64 (LE.rom 0) (IE.var .i64 1001) 0) (IE.lit 1099511627776), BE.le (IE.lit 0) (IE.cel .i64 (LE.rom 0) (IE.var .i64 1001) 0), (BE.le (IE.len (LE.rom 0)) (IE.var .i64 1001)).not, BE.lit true, BE.le (IE.lit 1) (IE.var .i64 1), BE.le (IE.var .i64 1) (IE.lit 1099511627776), BE.le (IE.lit 1) (IE.len (LE.rom 0)), BE.le (IE.len (LE.rom 0)) (IE.lit 64), BE.eq (IE.len (LE.rom 1)) (IE.len (LE.rom 0)), BE.le (IE.lit 0) (IE.var .i64 1001), BE.le (IE.var .i64 1001) (IE.len (LE.rom 0))] (some [G.b (((BE.le (IE.lit 1) (IE.var .i64 1)).and (BE.le (IE.var .i64 1) (IE.lit 1099511627776))).and (((BE.le (IE.lit 1) (IE.len (LE.rom 0))).and (BE.le (IE.len (LE.rom 0)) (IE.lit 64))).and ((BE.eq (IE.len (LE.rom 1)) (IE.len (LE.rom 0))).and ((BE.fn 1 (AL.lst (LE.rom 0) AL.nil)).and (BE.fn 2 (AL.lst (LE.rom 1) AL.nil)))))) (BE.lit false)]), VW.done [(BE.le (IE.cel .i64 (LE.rom 0) (IE.var .i64 1001) 0) (IE.lit 1099511627776)).not, BE.le (IE.lit 0) (IE.cel .i64 (LE.rom 0) (IE.var .i64 1001) 0), (BE.le (IE.len (LE.rom 0)) (IE.var .i64 1001)).not, BE.lit true, BE.le (IE.lit 1) (IE.var .i64 1), BE.le (IE.var .i64 1) (IE.lit 1099511627776), BE.le (IE.lit 1) (IE.len (LE.rom 0)), BE.le (IE.len (LE.rom 0)) (IE.lit 64), BE.eq (IE.len (LE.rom 1)) (IE.len (LE.rom 0)), BE.le (IE.lit 0) (IE.var .i64 1001), BE.le (IE.var .i64 1001) (IE.len (LE.rom 0))] (some [G.b (((BE.le (IE.lit 1) (IE.var .i64 1)).and (BE.le (IE.var .i64 1) (IE.lit 1099511627776))).and (((BE.le (IE.lit 1) (IE.len (LE.rom 0))).and (BE.le (IE.len (LE.rom 0)) (IE.lit 64))).and ((BE.eq (IE.len (LE.rom 1)) (IE.len (LE.rom 0))).and ((BE.fn 1 (AL.lst (LE.rom 0) AL.nil)).and (BE.fn 2 (AL.lst (LE.rom 1) AL.nil)))))) (BE.lit false)]), VW.done [(BE.le (IE.lit 0) (IE.cel .i64 (LE.rom 0) (IE.var .i64 1001) 0)).not, (BE.le (IE.len (LE.rom 0)) (IE.var .i64 1001)).not, BE.lit true, BE.le (IE.lit 1) (IE.var .i64 1), BE.le (IE.var .i64 1) (IE.lit 1099511627776), BE.le (IE.lit 1) (IE.len (LE.rom 0)), BE.le (IE.len (LE.rom 0)) (IE.lit 64), BE.eq (IE.len (LE.rom 1)) (IE.len (LE.rom 0)), BE.le (IE.lit 0) (IE.var .i64 1001), BE.le (IE.var .i64 1001) (IE.len (LE.rom 0))] (some [G.b (((BE.le (IE.lit 1) (IE.var .i64 1)).and (BE.le (IE.var .i64 1) (IE.lit 1099511627776))).and (((BE.le (IE.lit 1) (IE.len (LE.rom 0))).and (BE.le (IE.len (LE.rom 0)) (IE.lit 64))).and ((BE.eq (IE.len (LE.rom 1)) (IE.len (LE.rom 0))).and ((BE.fn 1 (AL.lst (LE.rom 0) AL.nil)).and (BE.fn 2 (AL.lst (LE.rom 1) AL.nil)))))) (BE.lit false)])]
def vwS0 : List VW := [VW.cut 1 [BE.eq (IE.len (LE.rom 1)) (IE.len (LE.rom 3)), BE.eq (IE.len (LE.rom 0)) (IE.len (LE.rom 2)), BE.eq (IE.var .i64 1) (IE.var .i64 2), BE.lit true] { i := [(.i64, 1001, IE.lit 0)], b := [], l := [], v := [], a := [], r := [] }, VW.done [(BE.eq (IE.len (LE.rom 1)) (IE.len (LE.rom 3))).not, BE.eq (IE.len (LE.rom 0)) (IE.len (LE.rom 2)), BE.eq (IE.var .i64 1) (IE.var .i64 2), BE.lit true] (some [G.b ((BE.eq (IE.var .i64 1) (IE.var .i64 2)).and ((BE.leq (LE.rom 0) (LE.rom 2)).and (BE.leq (LE.rom 1) (LE.rom 3)))) (BE.lit false)]), VW.done [(BE.eq (IE.len (LE.rom 0)) (IE.len (LE.rom 2))).not, BE.eq (IE.var .i64 1) (IE.var .i64 2), BE.lit true] (some [G.b ((BE.eq (IE.var .i64 1) (IE.var .i64 2)).and ((BE.leq (LE.rom 0) (LE.rom 2)).and (BE.leq (LE.rom 1) (LE.rom 3)))) (BE.lit false)]), VW.done [(BE.eq (IE.var .i64 1) (IE.var .i64 2)).not, BE.lit true] (some [])]
def vwS1 : List VW := [VW.cut 2 [BE.le (IE.len (LE.rom 0)) (IE.var .i64 1001), BE.lit true, BE.eq (IE.var .i64 1) (IE.var .i64 2), BE.eq (IE.len (LE.rom 0)) (IE.len (LE.rom 2)), BE.eq (IE.len (LE.rom 1)) (IE.len (LE.rom 3)), BE.le (IE.lit 0) (IE.var .i64 1001), BE.le (IE.var .i64 1001) (IE.len (LE.rom 0))] { i := [(.i64, 1001, IE.lit 0)], b := [], l := [], v := [], a := [], r := [] }, VW.cut 1 [BE.eq (IE.cel .i64 (LE.rom 0) (IE.var .i64 1001) 0) (IE.cel .i64 (LE.rom 2) (IE.var .i64 1001) 0), (BE.le (IE.len (LE.rom 0)) (IE.var .i64 1001)).not, BE.lit true, BE.eq (IE.var .i64 1) (IE.var .i64 2), BE.eq (IE.len (LE.rom 0)) (IE.len (LE.rom 2)), BE.eq (IE.len (LE.rom 1)) (IE.len (LE.rom 3)), BE.le (IE.lit 0) (IE.var .i64 1001), BE.le (IE.var .i64 1001) (IE.len (LE.rom 0))] { i := [(.i64, 1001, (IE.var .i64 1001).add (IE.lit 1))], b := [], l := [], v := [], a := [], r := [] }, VW.done [(BE.eq (IE.cel .i64 (LE.rom 0) (IE.var .i64 1001) 0) (IE.cel .i64 (LE.rom 2) (IE.var .i64 1001) 0)).not, (BE.le (IE.len (LE.rom 0)) (IE.var .i64 1001)).not, BE.lit true, BE.eq (IE.var .i64 1) (IE.var .i64 2), BE.eq (IE.len (LE.rom 0)) (IE.len (LE.rom 2)), BE.eq (IE.len (LE.rom 1)) (IE.len (LE.rom 3)), BE.le (IE.lit 0) (IE.var .i64 1001), BE.le (IE.var .i64 1001) (IE.len (LE.rom 0))] (some [G.b ((BE.eq (IE.var .i64 1) (IE.var .i64 2)).and ((BE.leq (LE.rom 0) (LE.rom 2)).and (BE.leq (LE.rom 1) (LE.rom 3)))) (BE.lit false)])]
def vwS2 : List VW := [VW.done [BE.le (IE.len (LE.rom 1)) (IE.var .i64 1001), BE.lit true, BE.eq (IE.var .i64 1) (IE.var .i64 2), BE.eq (IE.len (LE.rom 0)) (IE.len (LE.rom 2)), BE.eq (IE.len (LE.rom 1)) (IE.len (LE.rom 3)), BE.le (IE.lit 0) (IE.var .i64 1001), BE.le (IE.var .i64 1001) (IE.len (LE.rom 1))] (some [G.b ((BE.eq (IE.var .i64 1) (IE.var .i64 2)).and ((BE.leq (LE.rom 0) (LE.rom 2)).and (BE.leq (LE.rom 1) (LE.rom 3)))) (BE.lit true)]), VW.cut 2 [BE.eq (IE.cel .i64 (LE.rom 1) (IE.var .i64 1001) 1) (IE.cel .i64 (LE.rom 3) (IE.var .i64 1001) 1), BE.eq (IE.cel .i64 (LE.rom 1) (IE.var .i64 1001) 0) (IE.cel .i64 (LE.rom 3) (IE.var .i64 1001) 0), (BE.le (IE.len (LE.rom 1)) (IE.var .i64 1001)).not, BE.lit true, BE.eq (IE.var .i64 1) (IE.var .i64 2), BE.eq (IE.len (LE.rom 0)) (IE.len (LE.rom 2)), BE.eq (IE.len (LE.rom 1)) (IE.len (LE.rom 3)), BE.le (IE.lit 0) (IE.var .i64 1001), BE.le (IE.var .i64 1001) (IE.len (LE.rom 1))] { i := [(.i64, 1001, (IE.var .i64 1001).add (IE.lit 1))], b := [], l := [], v := [], a := [], r := [] }, VW.done [(BE.eq (IE.cel .i64 (LE.rom 1) (IE.var .i64 1001) 1) (IE.cel .i64 (LE.rom 3) (IE.var .i64 1001) 1)).not, BE.eq (IE.cel .i64 (LE.rom 1) (IE.var .i64 1001) 0) (IE.cel .i64 (LE.rom 3) (IE.var .i64 1001) 0), (BE.le (IE.len (LE.rom 1)) (IE.var .i64 1001)).not, BE.lit true, BE.eq (IE.var .i64 1) (IE.var .i64 2), BE.eq (IE.len (LE.rom 0)) (IE.len (LE.rom 2)), BE.eq (IE.len (LE.rom 1)) (IE.len (LE.rom 3)), BE.le (IE.lit 0) (IE.var .i64 1001), BE.le (IE.var .i64 1001) (IE.len (LE.rom 1))] (some [G.b ((BE.eq (IE.var .i64 1) (IE.var .i64 2)).and ((BE.leq (LE.rom 0) (LE.rom 2)).and (BE.leq (LE.rom 1) (LE.rom 3)))) (BE.lit false)]), VW.done [(BE.eq (IE.cel .i64 (LE.rom 1) (IE.var .i64 1001) 0) (IE.cel .i64 (LE.rom 3) (IE.var .i64 1001) 0)).not, (BE.le (IE.len (LE.rom 1)) (IE.var .i64 1001)).not, BE.lit true, BE.eq (IE.var .i64 1) (IE.var .i64 2), BE.eq (IE.len (LE.rom 0)) (IE.len (LE.rom 2)), BE.eq (IE.len (LE.rom 1)) (IE.len (LE.rom 3)), BE.le (IE.lit 0) (IE.var .i64 1001), BE.le (IE.var .i64 1001) (IE.len (LE.rom 1))] (some [G.b ((BE.eq (IE.var .i64 1) (IE.var .i64 2)).and ((BE.leq (LE.rom 0) (LE.rom 2)).and (BE.leq (LE.rom 1) (LE.rom 3)))) (BE.lit false)])]
def vwR : Nat → List VW
  | 0 => vwR0
  | _ => vwR1
def vwS : Nat → List VW
  | 0 => vwS0
  | 1 => vwS1
  | _ => vwS2
def invR : Nat → Lt → Prop
  | 0, _ => True
  | _, t => allO (t.z.rl 0) (t.i .i64 1001).toNat = true ∧ allI (t.z.rl 1) (t.i .i64 1001).toNat = true
def invS : Nat → Lt → Prop
  | 0, _ => True
  | 1, t => (t.z.rl 0).take (t.i .i64 1001).toNat = (t.z.rl 2).take (t.i .i64 1001).toNat
  | _, t => t.z.rl 0 = t.z.rl 2 ∧ (t.z.rl 1).take (t.i .i64 1001).toNat = (t.z.rl 3).take (t.i .i64 1001).toNat
def msS : Nat → Lt → Nat
  | 0, t => (t.z.rl 0).length + (t.z.rl 1).length + 2
  | 1, t => ((t.z.rl 0).length - (t.i .i64 1001).toNat) + (t.z.rl 1).length + 1
  | _, t => (t.z.rl 1).length - (t.i .i64 1001).toNat
end
theorem vcR0 : ∀ v ∈ vwR 0, VC (T Φ cRefRight.roms [cRefStamp]) invR ms1 0 (st cRefRight) v := by
  refine all_cons ?_ ?_
  · intro ρ kn hi hp
    refine ⟨⟨rfl, rfl⟩, ?_⟩
    show (ρ.z.rl 0).length - 0 < (ρ.z.rl 0).length + 1
    omega
  · repeat' first
      | exact all_nil
      | refine all_cons ?_ ?_
    all_goals exact fun ρ kn hi hp => all_nil
theorem vcR1 : ∀ v ∈ vwR 1, VC (T Φ cRefRight.roms [cRefStamp]) invR ms1 1 tRR v := by
  repeat' first
    | exact all_nil
    | refine all_cons ?_ ?_
  all_goals
    intro ρ kn hi hp
    have hi' : allO (ρ.z.rl 0) (ρ.i .i64 1001).toNat = true ∧ allI (ρ.z.rl 1) (ρ.i .i64 1001).toNat = true := hi
    have f4 := fStamp_den kn.F (.cel .i64 (.rom 1) (.var .i64 1001) 0) (.cel .i64 (.rom 1) (.var .i64 1001) 1)
    simp only [fStamp, IE.den, LE.den] at f4
    simp only [h_nil, h_cons, d_le, d_eq, d_not, d_var, d_lit, IE.den, LE.den, lenV, f4, stampN_iff] at hp
    have hc : (((ρ.i .i64 1001).toNat : Nat) : Int) = ρ.i .i64 1001 := by omega
    first
      | refine ⟨⟨?_, ?_⟩, ?_⟩
        · show allO (ρ.z.rl 0) (ρ.i .i64 1001 + 1).toNat = true
          rw [show (ρ.i .i64 1001 + 1).toNat = (ρ.i .i64 1001).toNat + 1 by omega]
          refine allP_succ hi'.1 ?_
          simp only [pO, atI, hc, outN_iff]
          omega
        · show allI (ρ.z.rl 1) (ρ.i .i64 1001 + 1).toNat = true
          rw [show (ρ.i .i64 1001 + 1).toNat = (ρ.i .i64 1001).toNat + 1 by omega]
          refine allP_succ hi'.2 ?_
          simp only [pI, atI, hc, inN_iff]
          omega
        · show (ρ.z.rl 0).length - (ρ.i .i64 1001 + 1).toNat < (ρ.z.rl 0).length - (ρ.i .i64 1001).toNat
          omega
      | refine all_cons ?_ all_nil
        show BE.den ρ _ = true
        simp only [d_and, d_le, d_eq, IE.den, LE.den, lenV]
        refine ⟨⟨by omega, by omega⟩, ⟨by omega, by omega⟩, by omega, ?_, ?_⟩
        · show ρ.z.F.b 1 [.lst (ρ.z.rl 0)] = true
          rw [kn.F]
          show allO (ρ.z.rl 0) (ρ.z.rl 0).length = true
          rw [show (ρ.z.rl 0).length = (ρ.i .i64 1001).toNat by omega]
          exact hi'.1
        · show ρ.z.F.b 2 [.lst (ρ.z.rl 1)] = true
          rw [kn.F]
          show allI (ρ.z.rl 1) (ρ.z.rl 1).length = true
          rw [show (ρ.z.rl 1).length = (ρ.i .i64 1001).toNat by omega]
          exact hi'.2
      | refine all_cons ?_ all_nil
        show BE.den ρ _ = false
        refine Bool.eq_false_iff.2 fun hh => ?_
        simp only [d_and] at hh
        have h1 : ρ.z.F.b 1 [.lst (ρ.z.rl 0)] = true := hh.2.2.2.1
        have h2 : ρ.z.F.b 2 [.lst (ρ.z.rl 1)] = true := hh.2.2.2.2
        rw [kn.F] at h1 h2
        have g1 := allP_at (m := (ρ.i .i64 1001).toNat) (show allP (pO (ρ.z.rl 0)) (ρ.z.rl 0).length = true from h1) (by omega)
        have g2 := allP_at (m := (ρ.i .i64 1001).toNat) (show allP (pI (ρ.z.rl 1)) (ρ.z.rl 1).length = true from h2) (by omega)
        simp only [pO, atI, hc, outN_iff] at g1
        simp only [pI, atI, hc, inN_iff] at g2
        omega
theorem okR0 : cfgOk (st cRefRight) = true := by kernel_rfl
theorem sgR0 : segL cRefRight.roms cRefRight (seg (T Φ cRefRight.roms [cRefStamp]) selRR 4000 tmRR (st cRefRight)) = (true, codesR tmRR (views (seg (T Φ cRefRight.roms [cRefStamp]) selRR 4000 tmRR (st cRefRight))), vwR 0) := by kernel_rfl
theorem okR1 : cfgOk (tRR) = true := by kernel_rfl
theorem sgR1 : segL cRefRight.roms cRefRight (seg (T Φ cRefRight.roms [cRefStamp]) selRR 4000 tmRR (tRR)) = (true, codesR tmRR (views (seg (T Φ cRefRight.roms [cRefStamp]) selRR 4000 tmRR (tRR))), vwR 1) := by kernel_rfl
theorem told_refRight : Sx.Told Φ cRefRight := by
  refine told_of (cs := [cRefStamp]) (one_told told_refStamp) (sel := selRR) 4000 tmRR invR ms1 vwR 0 (pc0 := [.lit true]) (by kernel_rfl) (by kernel_rfl) (by kernel_rfl) (post_nil rfl) ?_ ?_ ?_ rfl (fun ρ _ _ => by simp [Holds, BE.den]) (fun _ _ _ _ => trivial)
  · intro k C h
    have := lk_mem h
    simp only [tmRR, List.mem_cons, Prod.mk.injEq, List.not_mem_nil, or_false] at this
    rcases this with ⟨rfl, rfl⟩ | ⟨rfl, rfl⟩
    · exact okR0
    · exact okR1
  · intro k C h
    have := lk_mem h
    simp only [tmRR, List.mem_cons, Prod.mk.injEq, List.not_mem_nil, or_false] at this
    rcases this with ⟨rfl, rfl⟩ | ⟨rfl, rfl⟩
    · exact sgR0
    · exact sgR1
  · intro k C h
    have := lk_mem h
    simp only [tmRR, List.mem_cons, Prod.mk.injEq, List.not_mem_nil, or_false] at this
    rcases this with ⟨rfl, rfl⟩ | ⟨rfl, rfl⟩
    · exact vcR0
    · exact vcR1
theorem clamp_id {k : IntKind} {n : Int} (h : kmin k ≤ n ∧ n ≤ kmax k) : clampK k n = n := by unfold clampK; rw [if_pos h]
theorem int_conf {v : Value} (hv : conf1 (.int .i64) v = true) : ∃ n, v = .int .i64 n ∧ kmin .i64 ≤ n ∧ n ≤ kmax .i64 := by
  obtain ⟨e, h1⟩ := conf1_int hv
  rw [clamp_id h1] at e
  exact ⟨_, e, h1⟩
theorem out_conf {e : List Value} (h : conf [.int .i64] e = true) : ∃ a, e = [.int .i64 a] ∧ (kmin .i64 ≤ a ∧ a ≤ kmax .i64) := by
  match e, h with
  | [v1], h =>
    simp only [conf] at h
    obtain ⟨h1, _⟩ := ifb h
    obtain ⟨a, rfl, ha⟩ := int_conf h1
    exact ⟨a, rfl, ha⟩
  | [], h => simp [conf] at h
  | _ :: _ :: _, h => simp [conf] at h
theorem in_conf {e : List Value} (h : conf [.int .i64, .int .i64] e = true) : ∃ a b, e = [.int .i64 a, .int .i64 b] ∧ (kmin .i64 ≤ a ∧ a ≤ kmax .i64) ∧ (kmin .i64 ≤ b ∧ b ≤ kmax .i64) := by
  match e, h with
  | [v1, v2], h =>
    simp only [conf] at h
    obtain ⟨h1, h2⟩ := ifb h
    obtain ⟨h3, _⟩ := ifb h2
    obtain ⟨a, rfl, ha⟩ := int_conf h1
    obtain ⟨b, rfl, hb⟩ := int_conf h3
    exact ⟨a, b, rfl, ha, hb⟩
  | [], h => simp [conf] at h
  | [_], h => simp [conf] at h
  | _ :: _ :: _ :: _, h => simp [conf] at h
theorem out_at {l : LV} (h : Typed [.int .i64] l) {i : Int} (h0 : 0 ≤ i) (hn : i < (l.length : Int)) : l[i.toNat]? = some [.int .i64 (clampK .i64 (intV (celV l i 0)))] := by
  have hl : i.toNat < l.length := by omega
  obtain ⟨a, he, ha⟩ := out_conf (h _ (List.getElem_mem hl))
  have hg : l.getD i.toNat [] = l[i.toNat] := by rw [List.getD_eq_getElem?_getD, List.getElem?_eq_getElem hl]; rfl
  have c0 : celV l i 0 = .int .i64 a := by unfold celV; rw [hg, he]; rfl
  rw [List.getElem?_eq_getElem hl, he, c0]
  simp only [intV, clamp_id ha]
theorem in_at {l : LV} (h : Typed [.int .i64, .int .i64] l) {i : Int} (h0 : 0 ≤ i) (hn : i < (l.length : Int)) : l[i.toNat]? = some [.int .i64 (clampK .i64 (intV (celV l i 0))), .int .i64 (clampK .i64 (intV (celV l i 1)))] := by
  have hl : i.toNat < l.length := by omega
  obtain ⟨a, b, he, ha, hb⟩ := in_conf (h _ (List.getElem_mem hl))
  have hg : l.getD i.toNat [] = l[i.toNat] := by rw [List.getD_eq_getElem?_getD, List.getElem?_eq_getElem hl]; rfl
  have c0 : celV l i 0 = .int .i64 a := by unfold celV; rw [hg, he]; rfl
  have c1 : celV l i 1 = .int .i64 b := by unfold celV; rw [hg, he]; rfl
  rw [List.getElem?_eq_getElem hl, he, c0, c1]
  simp only [intV, clamp_id ha, clamp_id hb]
theorem vcS0 : ∀ v ∈ vwS 0, VC (T Φ cSame.roms []) invS msS 0 (st cSame) v := by
  refine all_cons ?_ (all_cons ?_ (all_cons ?_ (all_cons ?_ all_nil)))
  · intro ρ kn hi hp
    refine ⟨rfl, ?_⟩
    show ((ρ.z.rl 0).length - 0) + (ρ.z.rl 1).length + 1 < (ρ.z.rl 0).length + (ρ.z.rl 1).length + 2
    omega
  all_goals
    intro ρ kn hi hp
    first
      | exact all_nil
      | simp only [h_nil, h_cons, d_le, d_eq, d_not, d_var, d_lit, IE.den, LE.den, lenV] at hp
        refine all_cons ?_ all_nil
        show BE.den ρ _ = false
        refine Bool.eq_false_iff.2 fun hh => ?_
        simp only [d_and, d_leq, LE.den] at hh
        exact hp.1 (by rw [hh.2.1])
      | simp only [h_nil, h_cons, d_le, d_eq, d_not, d_var, d_lit, IE.den, LE.den, lenV] at hp
        refine all_cons ?_ all_nil
        show BE.den ρ _ = false
        refine Bool.eq_false_iff.2 fun hh => ?_
        simp only [d_and, d_leq, LE.den] at hh
        exact hp.1 (by rw [hh.2.2])
theorem vcS1 : ∀ v ∈ vwS 1, VC (T Φ cSame.roms []) invS msS 1 (tSm 5 4 (ln 0)) v := by
  refine all_cons ?_ (all_cons ?_ (all_cons ?_ all_nil))
  all_goals
    intro ρ kn hi hp
    have hi' : (ρ.z.rl 0).take (ρ.i .i64 1001).toNat = (ρ.z.rl 2).take (ρ.i .i64 1001).toNat := hi
    simp only [h_nil, h_cons, d_le, d_eq, d_not, d_var, d_lit, IE.den, LE.den, lenV] at hp
  · refine ⟨⟨?_, rfl⟩, ?_⟩
    · show ρ.z.rl 0 = ρ.z.rl 2
      rw [List.take_of_length_le (by omega), List.take_of_length_le (by omega)] at hi'
      exact hi'
    · show (ρ.z.rl 1).length - 0 < ((ρ.z.rl 0).length - (ρ.i .i64 1001).toNat) + (ρ.z.rl 1).length + 1
      omega
  · refine ⟨?_, ?_⟩
    · show (ρ.z.rl 0).take (ρ.i .i64 1001 + 1).toNat = (ρ.z.rl 2).take (ρ.i .i64 1001 + 1).toNat
      rw [show (ρ.i .i64 1001 + 1).toNat = (ρ.i .i64 1001).toNat + 1 by omega, List.take_add_one, List.take_add_one, hi']
      have t0 := out_at (kn.rom 0 1 _ rfl) (i := ρ.i .i64 1001) (by omega) (by omega)
      have t1 := out_at (kn.rom 2 1 _ rfl) (i := ρ.i .i64 1001) (by omega) (by omega)
      rw [t0, t1, hp.1]
    · show ((ρ.z.rl 0).length - (ρ.i .i64 1001 + 1).toNat) + (ρ.z.rl 1).length + 1 < ((ρ.z.rl 0).length - (ρ.i .i64 1001).toNat) + (ρ.z.rl 1).length + 1
      omega
  · refine all_cons ?_ all_nil
    show BE.den ρ _ = false
    refine Bool.eq_false_iff.2 fun hh => ?_
    simp only [d_and, d_leq, LE.den] at hh
    rw [hh.2.1] at hp
    exact hp.1 rfl
theorem vcS2 : ∀ v ∈ vwS 2, VC (T Φ cSame.roms []) invS msS 2 (tSm 6 9 (ln 1)) v := by
  refine all_cons ?_ (all_cons ?_ (all_cons ?_ (all_cons ?_ all_nil)))
  all_goals
    intro ρ kn hi hp
    have hi' : ρ.z.rl 0 = ρ.z.rl 2 ∧ (ρ.z.rl 1).take (ρ.i .i64 1001).toNat = (ρ.z.rl 3).take (ρ.i .i64 1001).toNat := hi
    simp only [h_nil, h_cons, d_le, d_eq, d_not, d_var, d_lit, IE.den, LE.den, lenV] at hp
  · obtain ⟨i1, i2⟩ := hi'
    refine all_cons ?_ all_nil
    show BE.den ρ _ = true
    simp only [d_and, d_leq, d_eq, IE.den, LE.den]
    rw [List.take_of_length_le (by omega), List.take_of_length_le (by omega)] at i2
    exact ⟨hp.2.2.1, i1, i2⟩
  · refine ⟨⟨hi'.1, ?_⟩, ?_⟩
    · show (ρ.z.rl 1).take (ρ.i .i64 1001 + 1).toNat = (ρ.z.rl 3).take (ρ.i .i64 1001 + 1).toNat
      rw [show (ρ.i .i64 1001 + 1).toNat = (ρ.i .i64 1001).toNat + 1 by omega, List.take_add_one, List.take_add_one, hi'.2]
      have t0 := in_at (kn.rom 1 2 _ rfl) (i := ρ.i .i64 1001) (by omega) (by omega)
      have t1 := in_at (kn.rom 3 2 _ rfl) (i := ρ.i .i64 1001) (by omega) (by omega)
      rw [t0, t1, hp.1, hp.2.1]
    · show (ρ.z.rl 1).length - (ρ.i .i64 1001 + 1).toNat < (ρ.z.rl 1).length - (ρ.i .i64 1001).toNat
      omega
  all_goals
    refine all_cons ?_ all_nil
    show BE.den ρ _ = false
    refine Bool.eq_false_iff.2 fun hh => ?_
    simp only [d_and, d_leq, LE.den] at hh
    rw [hh.2.2] at hp
    exact hp.1 rfl
theorem okS0 : cfgOk (st cSame) = true := by kernel_rfl
theorem sgS0 : segL cSame.roms cSame (seg (T Φ cSame.roms []) selSm 4000 tmSm (st cSame)) = (true, codesR tmSm (views (seg (T Φ cSame.roms []) selSm 4000 tmSm (st cSame))), vwS 0) := by kernel_rfl
theorem okS1 : cfgOk (tSm 5 4 (ln 0)) = true := by kernel_rfl
theorem sgS1 : segL cSame.roms cSame (seg (T Φ cSame.roms []) selSm 4000 tmSm (tSm 5 4 (ln 0))) = (true, codesR tmSm (views (seg (T Φ cSame.roms []) selSm 4000 tmSm (tSm 5 4 (ln 0)))), vwS 1) := by kernel_rfl
theorem okS2 : cfgOk (tSm 6 9 (ln 1)) = true := by kernel_rfl
theorem sgS2 : segL cSame.roms cSame (seg (T Φ cSame.roms []) selSm 4000 tmSm (tSm 6 9 (ln 1))) = (true, codesR tmSm (views (seg (T Φ cSame.roms []) selSm 4000 tmSm (tSm 6 9 (ln 1)))), vwS 2) := by kernel_rfl
theorem told_same : Sx.Told Φ cSame := by
  refine told_of (cs := []) all_nil (sel := selSm) 4000 tmSm invS msS vwS 0 (pc0 := [.lit true]) (by kernel_rfl) (by kernel_rfl) (by kernel_rfl) (post_nil rfl) ?_ ?_ ?_ rfl (fun ρ _ _ => by simp [Holds, BE.den]) (fun _ _ _ _ => trivial)
  · intro k C h
    have := lk_mem h
    simp only [tmSm, List.mem_cons, Prod.mk.injEq, List.not_mem_nil, or_false] at this
    rcases this with ⟨rfl, rfl⟩ | ⟨rfl, rfl⟩ | ⟨rfl, rfl⟩
    · exact okS0
    · exact okS1
    · exact okS2
  · intro k C h
    have := lk_mem h
    simp only [tmSm, List.mem_cons, Prod.mk.injEq, List.not_mem_nil, or_false] at this
    rcases this with ⟨rfl, rfl⟩ | ⟨rfl, rfl⟩ | ⟨rfl, rfl⟩
    · exact sgS0
    · exact sgS1
    · exact sgS2
  · intro k C h
    have := lk_mem h
    simp only [tmSm, List.mem_cons, Prod.mk.injEq, List.not_mem_nil, or_false] at this
    rcases this with ⟨rfl, rfl⟩ | ⟨rfl, rfl⟩ | ⟨rfl, rfl⟩
    · exact vcS0
    · exact vcS1
    · exact vcS2
theorem told_works : Sx.Told Φ cWorks := told_auto (cs := []) all_nil 20000 (by kernel_rfl) (by kernel_rfl) (by kernel_rfl) (post_nil rfl) (by kernel_rfl) (by kernel_rfl)
noncomputable def csK : List Ctr := [cWorks, cStamp, cRefStamp, cRight, cRefRight, cSame]
theorem told_all : ∀ d ∈ csK, Sx.Told Φ d := all_cons told_works (all_cons told_stamp (all_cons told_refStamp (all_cons told_right (all_cons told_refRight (one_told told_same)))))
theorem odd_ok : OddOk Φ := fun n a h => Typed.nil _
end Go.Proofs.Ytjgkaimgocnkmaa.link
