/- Layer stat: the fold over statuses. No condition. -/
import Derived.Test.YtjgkaimgocnkmabFd
set_option linter.unusedVariables false
set_option linter.unusedSimpArgs false
set_option linter.deprecated false
namespace Go.Proofs.Ytjgkaimgocnkmab.stat
open Go Go.Proofs.Ytjgkaimgocnkmab.Sx
noncomputable section
def vwF0 : List VW := [VW.cut 1 [BE.lit true] { i := [(.i64, 1001, IE.lit 0)], b := [(1000, BE.var 1)], l := [], v := [], a := [], r := [] }]
def vwF1 : List VW := [VW.done [BE.le (IE.len (LE.rom 0)) (IE.var .i64 1001), BE.lit true, BE.le (IE.lit 0) (IE.var .i64 1001), BE.le (IE.var .i64 1001) (IE.len (LE.rom 0))] (some [G.b ((BE.var 1).and (BE.fn 1 (AL.lst (LE.rom 0) AL.nil))) (BE.var 1000)]), VW.cut 1 [BE.var 1000, (BE.le (IE.len (LE.rom 0)) (IE.var .i64 1001)).not, BE.lit true, BE.le (IE.lit 0) (IE.var .i64 1001), BE.le (IE.var .i64 1001) (IE.len (LE.rom 0))] { i := [(.i64, 1001, (IE.var .i64 1001).add (IE.lit 1))], b := [(1000, BE.fn 3 (AL.int .i64 (IE.cel .i64 (LE.rom 0) (IE.var .i64 1001) 0) (AL.bool (BE.cel (LE.rom 0) (IE.var .i64 1001) 1) (AL.int .i64 (IE.cel .i64 (LE.rom 0) (IE.var .i64 1001) 2) (AL.int .i64 (IE.cel .i64 (LE.rom 0) (IE.var .i64 1001) 3) AL.nil)))))], l := [], v := [], a := [], r := [] }, VW.cut 1 [(BE.var 1000).not, (BE.le (IE.len (LE.rom 0)) (IE.var .i64 1001)).not, BE.lit true, BE.le (IE.lit 0) (IE.var .i64 1001), BE.le (IE.var .i64 1001) (IE.len (LE.rom 0))] { i := [(.i64, 1001, (IE.var .i64 1001).add (IE.lit 1))], b := [(1000, BE.lit false)], l := [], v := [], a := [], r := [] }]
def vwL0 : List VW := [VW.cut 1 [BE.eq (IE.len (LE.rom 0)) (IE.wrap .i64 ((IE.var .i64 1).mul (IE.var .i64 3))), BE.fn 2 (AL.int .i64 (IE.var .i64 1) (AL.int .i64 (IE.var .i64 2) (AL.int .i64 (IE.var .i64 3) AL.nil))), BE.lit true] { i := [(.i64, 1001, IE.lit 0)], b := [], l := [], v := [], a := [], r := [] }, VW.done [(BE.eq (IE.len (LE.rom 0)) (IE.wrap .i64 ((IE.var .i64 1).mul (IE.var .i64 3)))).not, BE.fn 2 (AL.int .i64 (IE.var .i64 1) (AL.int .i64 (IE.var .i64 2) (AL.int .i64 (IE.var .i64 3) AL.nil))), BE.lit true] (some []), VW.done [(BE.fn 2 (AL.int .i64 (IE.var .i64 1) (AL.int .i64 (IE.var .i64 2) (AL.int .i64 (IE.var .i64 3) AL.nil)))).not, BE.lit true] (some [])]
def vwL1 : List VW := [VW.done [BE.le (IE.len (LE.rom 0)) (IE.var .i64 1001), BE.lit true, BE.eq (IE.len (LE.rom 0)) (IE.wrap .i64 ((IE.var .i64 1).mul (IE.var .i64 3))), BE.fn 2 (AL.int .i64 (IE.var .i64 1) (AL.int .i64 (IE.var .i64 2) (AL.int .i64 (IE.var .i64 3) AL.nil))), BE.le (IE.lit 0) (IE.var .i64 1001), BE.le (IE.var .i64 1001) (IE.len (LE.rom 0))] (some [G.b ((BE.fn 2 (AL.int .i64 (IE.var .i64 1) (AL.int .i64 (IE.var .i64 2) (AL.int .i64 (IE.var .i64 3) AL.nil)))).and ((BE.eq (IE.len (LE.rom 0)) (IE.wrap .i64 ((IE.var .i64 1).mul (IE.var .i64 3)))).and (BE.fn 1 (AL.lst (LE.rom 0) AL.nil)))) (BE.lit true)]), VW.cut 1 [BE.fn 3 (AL.int .i64 (IE.cel .i64 (LE.rom 0) (IE.var .i64 1001) 0) (AL.bool (BE.cel (LE.rom 0) (IE.var .i64 1001) 1) (AL.int .i64 (IE.cel .i64 (LE.rom 0) (IE.var .i64 1001) 2) (AL.int .i64 (IE.cel .i64 (LE.rom 0) (IE.var .i64 1001) 3) AL.nil)))), (BE.le (IE.len (LE.rom 0)) (IE.var .i64 1001)).not, BE.lit true, BE.eq (IE.len (LE.rom 0)) (IE.wrap .i64 ((IE.var .i64 1).mul (IE.var .i64 3))), BE.fn 2 (AL.int .i64 (IE.var .i64 1) (AL.int .i64 (IE.var .i64 2) (AL.int .i64 (IE.var .i64 3) AL.nil))), BE.le (IE.lit 0) (IE.var .i64 1001), BE.le (IE.var .i64 1001) (IE.len (LE.rom 0))] { i := [(.i64, 1001, (IE.var .i64 1001).add (IE.lit 1))], b := [], l := [], v := [], a := [], r := [] }, VW.done [(BE.fn 3 (AL.int .i64 (IE.cel .i64 (LE.rom 0) (IE.var .i64 1001) 0) (AL.bool (BE.cel (LE.rom 0) (IE.var .i64 1001) 1) (AL.int .i64 (IE.cel .i64 (LE.rom 0) (IE.var .i64 1001) 2) (AL.int .i64 (IE.cel .i64 (LE.rom 0) (IE.var .i64 1001) 3) AL.nil))))).not, (BE.le (IE.len (LE.rom 0)) (IE.var .i64 1001)).not, BE.lit true, BE.eq (IE.len (LE.rom 0)) (IE.wrap .i64 ((IE.var .i64 1).mul (IE.var .i64 3))), BE.fn 2 (AL.int .i64 (IE.var .i64 1) (AL.int .i64 (IE.var .i64 2) (AL.int .i64 (IE.var .i64 3) AL.nil))), BE.le (IE.lit 0) (IE.var .i64 1001), BE.le (IE.var .i64 1001) (IE.len (LE.rom 0))] (some [G.b ((BE.fn 2 (AL.int .i64 (IE.var .i64 1) (AL.int .i64 (IE.var .i64 2) (AL.int .i64 (IE.var .i64 3) AL.nil)))).and ((BE.eq (IE.len (LE.rom 0)) (IE.wrap .i64 ((IE.var .i64 1).mul (IE.var .i64 3)))).and (BE.fn 1 (AL.lst (LE.rom 0) AL.nil)))) (BE.lit false)])]
def vwS0 : List VW := [VW.cut 1 [BE.eq (IE.len (LE.rom 0)) (IE.len (LE.rom 1)), BE.lit true] { i := [(.i64, 1001, IE.lit 0)], b := [], l := [], v := [], a := [], r := [] }, VW.done [(BE.eq (IE.len (LE.rom 0)) (IE.len (LE.rom 1))).not, BE.lit true] (some [G.b (BE.leq (LE.rom 0) (LE.rom 1)) (BE.lit false)])]
def vwS1 : List VW := [VW.done [BE.le (IE.len (LE.rom 0)) (IE.var .i64 1001), BE.lit true, BE.eq (IE.len (LE.rom 0)) (IE.len (LE.rom 1)), BE.le (IE.lit 0) (IE.var .i64 1001), BE.le (IE.var .i64 1001) (IE.len (LE.rom 0))] (some [G.b (BE.leq (LE.rom 0) (LE.rom 1)) (BE.lit true)]), VW.cut 1 [BE.eq (IE.cel .i64 (LE.rom 0) (IE.var .i64 1001) 3) (IE.cel .i64 (LE.rom 1) (IE.var .i64 1001) 3), BE.eq (IE.cel .i64 (LE.rom 0) (IE.var .i64 1001) 2) (IE.cel .i64 (LE.rom 1) (IE.var .i64 1001) 2), BE.cel (LE.rom 1) (IE.var .i64 1001) 1, BE.cel (LE.rom 0) (IE.var .i64 1001) 1, BE.eq (IE.cel .i64 (LE.rom 0) (IE.var .i64 1001) 0) (IE.cel .i64 (LE.rom 1) (IE.var .i64 1001) 0), (BE.le (IE.len (LE.rom 0)) (IE.var .i64 1001)).not, BE.lit true, BE.eq (IE.len (LE.rom 0)) (IE.len (LE.rom 1)), BE.le (IE.lit 0) (IE.var .i64 1001), BE.le (IE.var .i64 1001) (IE.len (LE.rom 0))] { i := [(.i64, 1001, (IE.var .i64 1001).add (IE.lit 1))], b := [], l := [], v := [], a := [], r := [] }, VW.done [(BE.eq (IE.cel .i64 (LE.rom 0) (IE.var .i64 1001) 3) (IE.cel .i64 (LE.rom 1) (IE.var .i64 1001) 3)).not, BE.eq (IE.cel .i64 (LE.rom 0) (IE.var .i64 1001) 2) (IE.cel .i64 (LE.rom 1) (IE.var .i64 1001) 2), BE.cel (LE.rom 1) (IE.var .i64 1001) 1, BE.cel (LE.rom 0) (IE.var .i64 1001) 1, BE.eq (IE.cel .i64 (LE.rom 0) (IE.var .i64 1001) 0) (IE.cel .i64 (LE.rom 1) (IE.var .i64 1001) 0), (BE.le (IE.len (LE.rom 0)) (IE.var .i64 1001)).not, BE.lit true, BE.eq (IE.len (LE.rom 0)) (IE.len (LE.rom 1)), BE.le (IE.lit 0) (IE.var .i64 1001), BE.le (IE.var .i64 1001) (IE.len (LE.rom 0))] (some [G.b (BE.leq (LE.rom 0) (LE.rom 1)) (BE.lit false)]), VW.done [(BE.eq (IE.cel .i64 (LE.rom 0) (IE.var .i64 1001) 2) (IE.cel .i64 (LE.rom 1) (IE.var .i64 1001) 2)).not, BE.cel (LE.rom 1) (IE.var .i64 1001) 1, BE.cel (LE.rom 0) (IE.var .i64 1001) 1, BE.eq (IE.cel .i64 (LE.rom 0) (IE.var .i64 1001) 0) (IE.cel .i64 (LE.rom 1) (IE.var .i64 1001) 0), (BE.le (IE.len (LE.rom 0)) (IE.var .i64 1001)).not, BE.lit true, BE.eq (IE.len (LE.rom 0)) (IE.len (LE.rom 1)), BE.le (IE.lit 0) (IE.var .i64 1001), BE.le (IE.var .i64 1001) (IE.len (LE.rom 0))] (some [G.b (BE.leq (LE.rom 0) (LE.rom 1)) (BE.lit false)]), VW.done [(BE.cel (LE.rom 1) (IE.var .i64 1001) 1).not, BE.cel (LE.rom 0) (IE.var .i64 1001) 1, BE.eq (IE.cel .i64 (LE.rom 0) (IE.var .i64 1001) 0) (IE.cel .i64 (LE.rom 1) (IE.var .i64 1001) 0), (BE.le (IE.len (LE.rom 0)) (IE.var .i64 1001)).not, BE.lit true, BE.eq (IE.len (LE.rom 0)) (IE.len (LE.rom 1)), BE.le (IE.lit 0) (IE.var .i64 1001), BE.le (IE.var .i64 1001) (IE.len (LE.rom 0))] (some [G.b (BE.leq (LE.rom 0) (LE.rom 1)) (BE.lit false)]), VW.done [BE.cel (LE.rom 1) (IE.var .i64 1001) 1, (BE.cel (LE.rom 0) (IE.var .i64 1001) 1).not, BE.eq (IE.cel .i64 (LE.rom 0) (IE.var .i64 1001) 0) (IE.cel .i64 (LE.rom 1) (IE.var .i64 1001) 0), (BE.le (IE.len (LE.rom 0)) (IE.var .i64 1001)).not, BE.lit true, BE.eq (IE.len (LE.rom 0)) (IE.len (LE.rom 1)), BE.le (IE.lit 0) (IE.var .i64 1001), BE.le (IE.var .i64 1001) (IE.len (LE.rom 0))] (some [G.b (BE.leq (LE.rom 0) (LE.rom 1)) (BE.lit false)]), VW.cut 1 [BE.eq (IE.cel .i64 (LE.rom 0) (IE.var .i64 1001) 3) (IE.cel .i64 (LE.rom 1) (IE.var .i64 1001) 3), BE.eq (IE.cel .i64 (LE.rom 0) (IE.var .i64 1001) 2) (IE.cel .i64 (LE.rom 1) (IE.var .i64 1001) 2), (BE.cel (LE.rom 1) (IE.var .i64 1001) 1).not, (BE.cel (LE.rom 0) (IE.var .i64 1001) 1).not, BE.eq (IE.cel .i64 (LE.rom 0) (IE.var .i64 1001) 0) (IE.cel .i64 (LE.rom 1) (IE.var .i64 1001) 0), (BE.le (IE.len (LE.rom 0)) (IE.var .i64 1001)).not, BE.lit true, BE.eq (IE.len (LE.rom 0)) (IE.len (LE.rom 1)), BE.le (IE.lit 0) (IE.var .i64 1001), BE.le (IE.var .i64 1001) (IE.len (LE.rom 0))] { i := [(.i64, 1001, (IE.var .i64 1001).add (IE.lit 1))], b := [], l := [], v := [], a := [], r := [] }, VW.done [(BE.eq (IE.cel .i64 (LE.rom 0) (IE.var .i64 1001) 3) (IE.cel .i64 (LE.rom 1) (IE.var .i64 1001) 3)).not, BE.eq (IE.cel .i64 (LE.rom 0) (IE.var .i64 1001) 2) (IE.cel .i64 (LE.rom 1) (IE.var .i64 1001) 2), (BE.cel (LE.rom 1) (IE.var .i64 1001) 1).not, (BE.cel (LE.rom 0) (IE.var .i64 1001) 1).not, BE.eq (IE.cel .i64 (LE.rom 0) (IE.var .i64 1001) 0) (IE.cel .i64 (LE.rom 1) (IE.var .i64 1001) 0), (BE.le (IE.len (LE.rom 0)) (IE.var .i64 1001)).not, BE.lit true, BE.eq (IE.len (LE.rom 0)) (IE.len (LE.rom 1)), BE.le (IE.lit 0) (IE.var .i64 1001), BE.le (IE.var .i64 1001) (IE.len (LE.rom 0))] (some [G.b (BE.leq (LE.rom 0) (LE.rom 1)) (BE.lit false)]), VW.done [(BE.eq (IE.cel .i64 (LE.rom 0) (IE.var .i64 1001) 2) (IE.cel .i64 (LE.rom 1) (IE.var .i64 1001) 2)).not, (BE.cel (LE.rom 1) (IE.var .i64 1001) 1).not, (BE.cel (LE.rom 0) (IE.var .i64 1001) 1).not, BE.eq (IE.cel .i64 (LE.rom 0) (IE.var .i64 1001) 0) (IE.cel .i64 (LE.rom 1) (IE.var .i64 1001) 0), (BE.le (IE.len (LE.rom 0)) (IE.var .i64 1001)).not, BE.lit true, BE.eq (IE.len (LE.rom 0)) (IE.len (LE.rom 1)), BE.le (IE.lit 0) (IE.var .i64 1001), BE.le (IE.var .i64 1001) (IE.len (LE.rom 0))] (some [G.b (BE.leq (LE.rom 0) (LE.rom 1)) (BE.lit false)]), VW.done [(BE.eq (IE.cel .i64 (LE.rom 0) (IE.var .i64 1001) 0) (IE.cel .i64 (LE.rom 1) (IE.var .i64 1001) 0)).not, (BE.le (IE.len (LE.rom 0)) (IE.var .i64 1001)).not, BE.lit true, BE.eq (IE.len (LE.rom 0)) (IE.len (LE.rom 1)), BE.le (IE.lit 0) (IE.var .i64 1001), BE.le (IE.var .i64 1001) (IE.len (LE.rom 0))] (some [G.b (BE.leq (LE.rom 0) (LE.rom 1)) (BE.lit false)])]
def vwF : Nat → List VW
  | 0 => vwF0
  | _ => vwF1
def invF : Nat → Lt → Prop
  | 0, _ => True
  | _, t => t.b 1000 = (t.b 1 && allR (t.z.rl 0) (t.i .i64 1001).toNat)
def msF : Nat → Lt → Nat
  | 0, t => (t.z.rl 0).length + 1
  | _, t => (t.z.rl 0).length - (t.i .i64 1001).toNat
end
theorem one_told {F : Fns} {c : Ctr} (h : Sx.Told F c) : ∀ d ∈ [c], Sx.Told F d := all_cons h all_nil
theorem rightE_den {ρ : Rho} (h : ρ.z.F = Φ) (h0 : 0 ≤ ρ.i .i64 1001) : (rightF (.cel .i64 (.rom 0) (.var .i64 1001) 0) (.cel (.rom 0) (.var .i64 1001) 1) (.cel .i64 (.rom 0) (.var .i64 1001) 2) (.cel .i64 (.rom 0) (.var .i64 1001) 3)).den ρ = rightE (ρ.z.rl 0) (((ρ.i .i64 1001).toNat : Nat) : Int) := by
  rw [rightF_den h, show (((ρ.i .i64 1001).toNat : Nat) : Int) = ρ.i .i64 1001 by omega]
  simp only [rightE, atI, atB, IE.den, BE.den, LE.den]
theorem vcF0 : ∀ v ∈ vwF 0, VC (T Φ cFold.roms [cRight]) invF msF 0 (startF 72 cFold.pat [.lit true]) v := by
  refine all_cons ?_ all_nil
  intro ρ kn hi hp
  refine ⟨?_, ?_⟩
  · show ρ.b 1 = (ρ.b 1 && true)
    simp
  · show (ρ.z.rl 0).length - 0 < (ρ.z.rl 0).length + 1
    omega
theorem vcF1 : ∀ v ∈ vwF 1, VC (T Φ cFold.roms [cRight]) invF msF 1 tFold v := by
  refine all_cons ?_ (all_cons ?_ (all_cons ?_ all_nil))
  · intro ρ kn hi hp
    have hi' : ρ.b 1000 = (ρ.b 1 && allR (ρ.z.rl 0) (ρ.i .i64 1001).toNat) := hi
    simp only [h_nil, h_cons, d_le, d_eq, d_not, d_var, d_lit, IE.den, LE.den, lenV] at hp
    refine all_cons ?_ all_nil
    show (ρ.b 1 && ρ.z.F.b 1 [.lst (ρ.z.rl 0)]) = ρ.b 1000
    rw [hi', kn.F]
    show (ρ.b 1 && allR (ρ.z.rl 0) (ρ.z.rl 0).length) = _
    rw [show (ρ.i .i64 1001).toNat = (ρ.z.rl 0).length by omega]
  · intro ρ kn hi hp
    have hi' : ρ.b 1000 = (ρ.b 1 && allR (ρ.z.rl 0) (ρ.i .i64 1001).toNat) := hi
    simp only [h_nil, h_cons, d_le, d_eq, d_not, d_var, d_lit, IE.den, LE.den, lenV] at hp
    refine ⟨?_, ?_⟩
    · show (rightF (.cel .i64 (.rom 0) (.var .i64 1001) 0) (.cel (.rom 0) (.var .i64 1001) 1) (.cel .i64 (.rom 0) (.var .i64 1001) 2) (.cel .i64 (.rom 0) (.var .i64 1001) 3)).den ρ = (ρ.b 1 && allR (ρ.z.rl 0) (ρ.i .i64 1001 + 1).toNat)
      rw [show (ρ.i .i64 1001 + 1).toNat = (ρ.i .i64 1001).toNat + 1 by omega, rightE_den kn.F hp.2.2.2.1, allR, ← Bool.and_assoc, ← hi', hp.1, Bool.true_and]
    · show (ρ.z.rl 0).length - (ρ.i .i64 1001 + 1).toNat < (ρ.z.rl 0).length - (ρ.i .i64 1001).toNat
      omega
  · intro ρ kn hi hp
    have hi' : ρ.b 1000 = (ρ.b 1 && allR (ρ.z.rl 0) (ρ.i .i64 1001).toNat) := hi
    simp only [h_nil, h_cons, d_le, d_eq, d_not, d_var, d_lit, IE.den, LE.den, lenV] at hp
    refine ⟨?_, ?_⟩
    · show false = (ρ.b 1 && allR (ρ.z.rl 0) (ρ.i .i64 1001 + 1).toNat)
      rw [show (ρ.i .i64 1001 + 1).toNat = (ρ.i .i64 1001).toNat + 1 by omega, allR, ← Bool.and_assoc, ← hi', Bool.eq_false_iff.2 hp.1]
      rfl
    · show (ρ.z.rl 0).length - (ρ.i .i64 1001 + 1).toNat < (ρ.z.rl 0).length - (ρ.i .i64 1001).toNat
      omega
theorem okF0 : cfgOk (startF 72 cFold.pat [.lit true]) = true := by kernel_rfl
theorem okF1 : cfgOk tFold = true := by kernel_rfl
theorem sgF0 : segL cFold.roms cFold (seg (T Φ cFold.roms [cRight]) selFold 400 tmFold (startF 72 cFold.pat [.lit true])) = (true, codesR tmFold (views (seg (T Φ cFold.roms [cRight]) selFold 400 tmFold (startF 72 cFold.pat [.lit true]))), vwF 0) := by kernel_rfl
theorem sgF1 : segL cFold.roms cFold (seg (T Φ cFold.roms [cRight]) selFold 400 tmFold tFold) = (true, codesR tmFold (views (seg (T Φ cFold.roms [cRight]) selFold 400 tmFold tFold)), vwF 1) := by kernel_rfl
theorem told_fold : Sx.Told Φ cFold := by
  refine told_of (cs := [cRight]) (one_told told_right) (sel := selFold) 400 tmFold invF msF vwF 0 (pc0 := [.lit true]) (by kernel_rfl) (by kernel_rfl) (by kernel_rfl) (post_nil rfl) ?_ ?_ ?_ rfl (fun ρ _ _ => by simp [Holds, BE.den]) (fun _ _ _ _ => trivial)
  · intro k C h
    have := lk_mem h
    simp only [tmFold, List.mem_cons, Prod.mk.injEq, List.not_mem_nil, or_false] at this
    rcases this with ⟨rfl, rfl⟩ | ⟨rfl, rfl⟩
    · exact okF0
    · exact okF1
  · intro k C h
    have := lk_mem h
    simp only [tmFold, List.mem_cons, Prod.mk.injEq, List.not_mem_nil, or_false] at this
    rcases this with ⟨rfl, rfl⟩ | ⟨rfl, rfl⟩
    · exact sgF0
    · exact sgF1
  · intro k C h
    have := lk_mem h
    simp only [tmFold, List.mem_cons, Prod.mk.injEq, List.not_mem_nil, or_false] at this
    rcases this with ⟨rfl, rfl⟩ | ⟨rfl, rfl⟩
    · exact vcF0
    · exact vcF1
/- lists -/
theorem allR_le {l : LV} : ∀ {n m : Nat}, allR l n = true → m ≤ n → allR l m = true
  | 0, m, h, hm => by
    have : m = 0 := by omega
    subst this; rfl
  | n + 1, m, h, hm => by
    rw [allR, Bool.and_eq_true] at h
    by_cases e : m = n + 1
    · subst e; rw [allR, Bool.and_eq_true]; exact h
    · exact allR_le h.1 (by omega)
noncomputable section
def vwL : Nat → List VW
  | 0 => vwL0
  | _ => vwL1
def invL : Nat → Lt → Prop
  | 0, _ => True
  | _, t => allR (t.z.rl 0) (t.i .i64 1001).toNat = true
def vwS : Nat → List VW
  | 0 => vwS0
  | _ => vwS1
def invS : Nat → Lt → Prop
  | 0, _ => True
  | _, t => (t.z.rl 0).take (t.i .i64 1001).toNat = (t.z.rl 1).take (t.i .i64 1001).toNat
end
theorem vcL0 : ∀ v ∈ vwL 0, VC (T Φ cListR.roms [cRefRight, cSi]) invL msF 0 (startF 48 cListR.pat [.lit true]) v := by
  refine all_cons ?_ (all_cons ?_ (all_cons ?_ all_nil))
  · intro ρ kn hi hp
    refine ⟨rfl, ?_⟩
    show (ρ.z.rl 0).length - 0 < (ρ.z.rl 0).length + 1
    omega
  · intro ρ kn hi hp
    exact all_nil
  · intro ρ kn hi hp
    exact all_nil
theorem vcL1 : ∀ v ∈ vwL 1, VC (T Φ cListR.roms [cRefRight, cSi]) invL msF 1 tList v := by
  refine all_cons ?_ (all_cons ?_ (all_cons ?_ all_nil))
  · intro ρ kn hi hp
    have hi' : allR (ρ.z.rl 0) (ρ.i .i64 1001).toNat = true := hi
    simp only [h_nil, h_cons, d_le, d_eq, d_not, d_var, d_lit, IE.den, LE.den, lenV] at hp
    refine all_cons ?_ all_nil
    show BE.den ρ _ = true
    rw [d_and, d_and]
    refine ⟨hp.2.2.2.1, ?_, ?_⟩
    · rw [d_eq]; exact hp.2.2.1
    · show ρ.z.F.b 1 [.lst (ρ.z.rl 0)] = true
      rw [kn.F]
      show allR (ρ.z.rl 0) (ρ.z.rl 0).length = true
      rw [show (ρ.z.rl 0).length = (ρ.i .i64 1001).toNat by omega]
      exact hi'
  · intro ρ kn hi hp
    have hi' : allR (ρ.z.rl 0) (ρ.i .i64 1001).toNat = true := hi
    simp only [h_nil, h_cons, d_le, d_eq, d_not, d_var, d_lit, IE.den, LE.den, lenV] at hp
    refine ⟨?_, ?_⟩
    · show allR (ρ.z.rl 0) (ρ.i .i64 1001 + 1).toNat = true
      rw [show (ρ.i .i64 1001 + 1).toNat = (ρ.i .i64 1001).toNat + 1 by omega, allR, hi', Bool.true_and, ← rightE_den kn.F (by omega)]
      exact hp.1
    · show (ρ.z.rl 0).length - (ρ.i .i64 1001 + 1).toNat < (ρ.z.rl 0).length - (ρ.i .i64 1001).toNat
      omega
  · intro ρ kn hi hp
    simp only [h_nil, h_cons, d_le, d_eq, d_not, d_var, d_lit, IE.den, LE.den, lenV] at hp
    refine all_cons ?_ all_nil
    show BE.den ρ _ = false
    refine Bool.eq_false_iff.2 fun hh => ?_
    rw [d_and, d_and] at hh
    have h3 : ρ.z.F.b 1 [.lst (ρ.z.rl 0)] = true := hh.2.2
    rw [kn.F] at h3
    have h4 := allR_le (m := (ρ.i .i64 1001).toNat + 1) (show allR (ρ.z.rl 0) (ρ.z.rl 0).length = true from h3) (by omega)
    rw [allR, Bool.and_eq_true, ← rightE_den kn.F (by omega)] at h4
    exact hp.1 h4.2
theorem okL0 : cfgOk (startF 48 cListR.pat [.lit true]) = true := by kernel_rfl
theorem okL1 : cfgOk tList = true := by kernel_rfl
theorem sgL0 : segL cListR.roms cListR (seg (T Φ cListR.roms [cRefRight, cSi]) selList 400 tmList (startF 48 cListR.pat [.lit true])) = (true, codesR tmList (views (seg (T Φ cListR.roms [cRefRight, cSi]) selList 400 tmList (startF 48 cListR.pat [.lit true]))), vwL 0) := by kernel_rfl
theorem sgL1 : segL cListR.roms cListR (seg (T Φ cListR.roms [cRefRight, cSi]) selList 400 tmList tList) = (true, codesR tmList (views (seg (T Φ cListR.roms [cRefRight, cSi]) selList 400 tmList tList)), vwL 1) := by kernel_rfl
theorem told_list : Sx.Told Φ cListR := by
  refine told_of (cs := [cRefRight, cSi]) (all_cons told_refRight (one_told told_si)) (sel := selList) 400 tmList invL msF vwL 0 (pc0 := [.lit true]) (by kernel_rfl) (by kernel_rfl) (by kernel_rfl) (post_nil rfl) ?_ ?_ ?_ rfl (fun ρ _ _ => by simp [Holds, BE.den]) (fun _ _ _ _ => trivial)
  · intro k C h
    have := lk_mem h
    simp only [tmList, List.mem_cons, Prod.mk.injEq, List.not_mem_nil, or_false] at this
    rcases this with ⟨rfl, rfl⟩ | ⟨rfl, rfl⟩
    · exact okL0
    · exact okL1
  · intro k C h
    have := lk_mem h
    simp only [tmList, List.mem_cons, Prod.mk.injEq, List.not_mem_nil, or_false] at this
    rcases this with ⟨rfl, rfl⟩ | ⟨rfl, rfl⟩
    · exact sgL0
    · exact sgL1
  · intro k C h
    have := lk_mem h
    simp only [tmList, List.mem_cons, Prod.mk.injEq, List.not_mem_nil, or_false] at this
    rcases this with ⟨rfl, rfl⟩ | ⟨rfl, rfl⟩
    · exact vcL0
    · exact vcL1
end Go.Proofs.Ytjgkaimgocnkmab.stat
