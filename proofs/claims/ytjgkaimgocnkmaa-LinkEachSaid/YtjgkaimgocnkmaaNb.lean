/- Layer link: what is taken by the document, told. No condition. -/
import Derived.Test.YtjgkaimgocnkmaaNa
set_option linter.unusedVariables false
set_option linter.unusedSimpArgs false
set_option linter.deprecated false
namespace Go.Proofs.Ytjgkaimgocnkmaa.lnk
open Go Go.Proofs.Ytjgkaimgocnkmaa.Sx
noncomputable section
abbrev TTstampR : Tab := T lnk.Φ cStampR.roms []
def pcstampR_0 : List BE := [(BE.lit true)]
def pcstampR_1 : List BE := ((BE.le (IE.lit 1) (IE.var .i64 1)) :: pcstampR_0)
def pcstampR_2 : List BE := ((BE.le (IE.var .i64 1) (IE.lit 1099511627776)) :: pcstampR_1)
def wstampR_0 : VW := (VW.done ((BE.le (IE.lit 1) (IE.var .i64 2)) :: pcstampR_2) (some [(G.b (BE.fn 4 (AL.int .i64 (IE.var .i64 1) (AL.int .i64 (IE.var .i64 2) AL.nil))) (BE.le (IE.var .i64 2) (IE.lit 1099511627776)))]))
def wstampR_1 : VW := (VW.done ((BE.not (BE.le (IE.lit 1) (IE.var .i64 2))) :: pcstampR_2) (some [(G.b (BE.fn 4 (AL.int .i64 (IE.var .i64 1) (AL.int .i64 (IE.var .i64 2) AL.nil))) (BE.lit false))]))
def wstampR_2 : VW := (VW.done ((BE.not (BE.le (IE.var .i64 1) (IE.lit 1099511627776))) :: pcstampR_1) (some [(G.b (BE.fn 4 (AL.int .i64 (IE.var .i64 1) (AL.int .i64 (IE.var .i64 2) AL.nil))) (BE.lit false))]))
def wstampR_3 : VW := (VW.done ((BE.not (BE.le (IE.lit 1) (IE.var .i64 1))) :: pcstampR_0) (some [(G.b (BE.fn 4 (AL.int .i64 (IE.var .i64 1) (AL.int .i64 (IE.var .i64 2) AL.nil))) (BE.lit false))]))
def vwstampR : List VW := [wstampR_0, wstampR_1, wstampR_2, wstampR_3]
end
theorem vcstampR_0 : VD TTstampR (st0 cStampR) wstampR_0 := by
  intro ρ kn hp
  have hF : ρ.z.F = lnk.Φ := kn.F
  simp only [h_nil, h_cons, d_le, d_eq, d_not, d_var, d_lit, d_cel, d_leq, d_fn, d_and, d_iff, IE.den, LE.den, AL.den, lenV, true_and, and_true, pcstampR_2, pcstampR_1, pcstampR_0, hF, pb1, pb2, pb4, pb5, pb6] at hp
  obtain ⟨p1, p2, p3⟩ := hp
  refine all_cons (show (ρ.z.F.b 4 [.int .i64 (ρ.i .i64 1), .int .i64 (ρ.i .i64 2)]) = (decide ((ρ.i .i64 2) ≤ (1099511627776 : Int))) from ?_) (all_nil)
  all_goals try simp only [hF, pb1, pb2, pb4, pb5, pb6]
  all_goals first | omega | skip
  all_goals
    apply beq_of
    simp only [out_iff, stamp_iff, in_iff, decide_eq_true_eq, Bool.and_eq_true, Bool.not_eq_true', Bool.false_eq_true, true_iff, iff_true, false_iff, iff_false, decide_eq_false_iff_not] at *
    omega
theorem vcstampR_1 : VD TTstampR (st0 cStampR) wstampR_1 := by
  intro ρ kn hp
  have hF : ρ.z.F = lnk.Φ := kn.F
  simp only [h_nil, h_cons, d_le, d_eq, d_not, d_var, d_lit, d_cel, d_leq, d_fn, d_and, d_iff, IE.den, LE.den, AL.den, lenV, true_and, and_true, pcstampR_2, pcstampR_1, pcstampR_0, hF, pb1, pb2, pb4, pb5, pb6] at hp
  obtain ⟨p1, p2, p3⟩ := hp
  refine all_cons (show (ρ.z.F.b 4 [.int .i64 (ρ.i .i64 1), .int .i64 (ρ.i .i64 2)]) = false from ?_) (all_nil)
  all_goals try simp only [hF, pb1, pb2, pb4, pb5, pb6]
  all_goals first | omega | skip
  all_goals
    apply beq_of
    simp only [out_iff, stamp_iff, in_iff, decide_eq_true_eq, Bool.and_eq_true, Bool.not_eq_true', Bool.false_eq_true, true_iff, iff_true, false_iff, iff_false, decide_eq_false_iff_not] at *
    omega
theorem vcstampR_2 : VD TTstampR (st0 cStampR) wstampR_2 := by
  intro ρ kn hp
  have hF : ρ.z.F = lnk.Φ := kn.F
  simp only [h_nil, h_cons, d_le, d_eq, d_not, d_var, d_lit, d_cel, d_leq, d_fn, d_and, d_iff, IE.den, LE.den, AL.den, lenV, true_and, and_true, pcstampR_1, pcstampR_0, hF, pb1, pb2, pb4, pb5, pb6] at hp
  obtain ⟨p1, p2⟩ := hp
  refine all_cons (show (ρ.z.F.b 4 [.int .i64 (ρ.i .i64 1), .int .i64 (ρ.i .i64 2)]) = false from ?_) (all_nil)
  all_goals try simp only [hF, pb1, pb2, pb4, pb5, pb6]
  all_goals first | omega | skip
  all_goals
    apply beq_of
    simp only [out_iff, stamp_iff, in_iff, decide_eq_true_eq, Bool.and_eq_true, Bool.not_eq_true', Bool.false_eq_true, true_iff, iff_true, false_iff, iff_false, decide_eq_false_iff_not] at *
    omega
theorem vcstampR_3 : VD TTstampR (st0 cStampR) wstampR_3 := by
  intro ρ kn hp
  have hF : ρ.z.F = lnk.Φ := kn.F
  simp only [h_nil, h_cons, d_le, d_eq, d_not, d_var, d_lit, d_cel, d_leq, d_fn, d_and, d_iff, IE.den, LE.den, AL.den, lenV, true_and, and_true, pcstampR_0, hF, pb1, pb2, pb4, pb5, pb6] at hp
  have p1 := hp
  refine all_cons (show (ρ.z.F.b 4 [.int .i64 (ρ.i .i64 1), .int .i64 (ρ.i .i64 2)]) = false from ?_) (all_nil)
  all_goals try simp only [hF, pb1, pb2, pb4, pb5, pb6]
  all_goals first | omega | skip
  all_goals
    apply beq_of
    simp only [out_iff, stamp_iff, in_iff, decide_eq_true_eq, Bool.and_eq_true, Bool.not_eq_true', Bool.false_eq_true, true_iff, iff_true, false_iff, iff_false, decide_eq_false_iff_not] at *
    omega
theorem told_stampR : Sx.Told lnk.Φ cStampR := told_vw (cs := []) (all_nil) 900 vwstampR (by kernel_rfl) (by kernel_rfl) (by kernel_rfl) (post_nil rfl) (by kernel_rfl) (by kernel_rfl) (all_cons vcstampR_0 (all_cons vcstampR_1 (all_cons vcstampR_2 (all_cons vcstampR_3 (all_nil)))))
noncomputable section
abbrev TTrright : Tab := T lnk.Φ cRRight.roms [cStampR]
def trright1 : Cfg := { top := ⟨43, over (opqS 10000 67) [(1, (SV.ptr 0 0)), (3, (SV.int .i64 (IE.var .i64 1000)))], ogt (loopTodo (bodyOf (T lnk.Φ [] []) 43) 0), [], false, none⟩, rest := [], heap := [(0, .cells [(SV.int .i64 (IE.var .i64 1)), (SV.rom 0 (IE.lit 0) (IE.len (LE.rom 0)) none), (SV.rom 1 (IE.lit 0) (IE.len (LE.rom 1)) none)] 68)], next := 1, pc := .lit true :: ([] ++ [(BE.le (IE.lit 1) (IE.len (LE.rom 0))), (BE.le (IE.len (LE.rom 0)) (IE.lit 64)), (BE.eq (IE.len (LE.rom 1)) (IE.len (LE.rom 0))), (BE.le (IE.lit 1) (IE.var .i64 1)), (BE.le (IE.var .i64 1) (IE.lit 1099511627776)), (BE.le (IE.lit 0) (IE.var .i64 1000)), (BE.le (IE.var .i64 1000) (IE.len (LE.rom 0))), (BE.le (IE.var .i64 1000) (IE.len (LE.rom 1)))]) }
def tmrright : List (Nat × Cfg) := [(0, startF 43 cRRight.pat [.lit true]), (1, trright1)]
def selrright : Sel := [(43, 1, 0, 1)]
def pcrright0_0 : List BE := [(BE.lit true)]
def pcrright0_1 : List BE := ((BE.le (IE.lit 1) (IE.len (LE.rom 0))) :: pcrright0_0)
def pcrright0_2 : List BE := ((BE.le (IE.len (LE.rom 0)) (IE.lit 64)) :: pcrright0_1)
def pcrright0_3 : List BE := ((BE.eq (IE.len (LE.rom 1)) (IE.len (LE.rom 0))) :: pcrright0_2)
def pcrright0_4 : List BE := ((BE.le (IE.lit 1) (IE.var .i64 1)) :: pcrright0_3)
def wrright0_0 : VW := (VW.cut 1 ((BE.le (IE.var .i64 1) (IE.lit 1099511627776)) :: pcrright0_4) (Sx.Sub.mk [(.i64, (1000, (IE.lit 0)))] [] [] [] [] []))
def wrright0_1 : VW := (VW.done ((BE.not (BE.le (IE.var .i64 1) (IE.lit 1099511627776))) :: pcrright0_4) (some []))
def wrright0_2 : VW := (VW.done ((BE.not (BE.le (IE.lit 1) (IE.var .i64 1))) :: pcrright0_3) (some []))
def wrright0_3 : VW := (VW.done ((BE.not (BE.eq (IE.len (LE.rom 1)) (IE.len (LE.rom 0)))) :: pcrright0_2) (some []))
def wrright0_4 : VW := (VW.done ((BE.not (BE.le (IE.len (LE.rom 0)) (IE.lit 64))) :: pcrright0_1) (some []))
def wrright0_5 : VW := (VW.done ((BE.not (BE.le (IE.lit 1) (IE.len (LE.rom 0)))) :: pcrright0_0) (some []))
def vwrright0 : List VW := [wrright0_0, wrright0_1, wrright0_2, wrright0_3, wrright0_4, wrright0_5]
def pcrright1_0 : List BE := [(BE.lit true), (BE.le (IE.lit 1) (IE.len (LE.rom 0))), (BE.le (IE.len (LE.rom 0)) (IE.lit 64)), (BE.eq (IE.len (LE.rom 1)) (IE.len (LE.rom 0))), (BE.le (IE.lit 1) (IE.var .i64 1)), (BE.le (IE.var .i64 1) (IE.lit 1099511627776)), (BE.le (IE.lit 0) (IE.var .i64 1000)), (BE.le (IE.var .i64 1000) (IE.len (LE.rom 0))), (BE.le (IE.var .i64 1000) (IE.len (LE.rom 1)))]
def pcrright1_1 : List BE := ((BE.not (BE.le (IE.len (LE.rom 0)) (IE.var .i64 1000))) :: pcrright1_0)
def pcrright1_2 : List BE := ((BE.le (IE.lit 0) (IE.cel .i64 (LE.rom 0) (IE.var .i64 1000) 0)) :: pcrright1_1)
def pcrright1_3 : List BE := ((BE.le (IE.cel .i64 (LE.rom 0) (IE.var .i64 1000) 0) (IE.lit 1099511627776)) :: pcrright1_2)
def pcrright1_4 : List BE := ((BE.not (BE.fn 4 (AL.int .i64 (IE.cel .i64 (LE.rom 1) (IE.var .i64 1000) 0) (AL.int .i64 (IE.cel .i64 (LE.rom 1) (IE.var .i64 1000) 1) AL.nil)))) :: pcrright1_3)
def pcrright1_5 : List BE := ((BE.eq (IE.cel .i64 (LE.rom 1) (IE.var .i64 1000) 0) (IE.lit 0)) :: pcrright1_4)
def wrright1_0 : VW := (VW.done ((BE.le (IE.len (LE.rom 0)) (IE.var .i64 1000)) :: pcrright1_0) (some [(G.b (BE.and (BE.and (BE.le (IE.lit 1) (IE.var .i64 1)) (BE.le (IE.var .i64 1) (IE.lit 1099511627776))) (BE.and (BE.and (BE.le (IE.lit 1) (IE.len (LE.rom 0))) (BE.le (IE.len (LE.rom 0)) (IE.lit 64))) (BE.and (BE.eq (IE.len (LE.rom 1)) (IE.len (LE.rom 0))) (BE.and (BE.fn 1 (AL.lst (LE.rom 0) AL.nil)) (BE.fn 2 (AL.lst (LE.rom 1) AL.nil)))))) (BE.lit true))]))
def wrright1_1 : VW := (VW.cut 1 ((BE.fn 4 (AL.int .i64 (IE.cel .i64 (LE.rom 1) (IE.var .i64 1000) 0) (AL.int .i64 (IE.cel .i64 (LE.rom 1) (IE.var .i64 1000) 1) AL.nil))) :: pcrright1_3) (Sx.Sub.mk [(.i64, (1000, (IE.add (IE.var .i64 1000) (IE.lit 1))))] [] [] [] [] []))
def wrright1_2 : VW := (VW.cut 1 ((BE.eq (IE.cel .i64 (LE.rom 1) (IE.var .i64 1000) 1) (IE.lit 0)) :: pcrright1_5) (Sx.Sub.mk [(.i64, (1000, (IE.add (IE.var .i64 1000) (IE.lit 1))))] [] [] [] [] []))
def wrright1_3 : VW := (VW.done ((BE.not (BE.eq (IE.cel .i64 (LE.rom 1) (IE.var .i64 1000) 1) (IE.lit 0))) :: pcrright1_5) (some [(G.b (BE.and (BE.and (BE.le (IE.lit 1) (IE.var .i64 1)) (BE.le (IE.var .i64 1) (IE.lit 1099511627776))) (BE.and (BE.and (BE.le (IE.lit 1) (IE.len (LE.rom 0))) (BE.le (IE.len (LE.rom 0)) (IE.lit 64))) (BE.and (BE.eq (IE.len (LE.rom 1)) (IE.len (LE.rom 0))) (BE.and (BE.fn 1 (AL.lst (LE.rom 0) AL.nil)) (BE.fn 2 (AL.lst (LE.rom 1) AL.nil)))))) (BE.lit false))]))
def wrright1_4 : VW := (VW.done ((BE.not (BE.eq (IE.cel .i64 (LE.rom 1) (IE.var .i64 1000) 0) (IE.lit 0))) :: pcrright1_4) (some [(G.b (BE.and (BE.and (BE.le (IE.lit 1) (IE.var .i64 1)) (BE.le (IE.var .i64 1) (IE.lit 1099511627776))) (BE.and (BE.and (BE.le (IE.lit 1) (IE.len (LE.rom 0))) (BE.le (IE.len (LE.rom 0)) (IE.lit 64))) (BE.and (BE.eq (IE.len (LE.rom 1)) (IE.len (LE.rom 0))) (BE.and (BE.fn 1 (AL.lst (LE.rom 0) AL.nil)) (BE.fn 2 (AL.lst (LE.rom 1) AL.nil)))))) (BE.lit false))]))
def wrright1_5 : VW := (VW.done ((BE.not (BE.le (IE.cel .i64 (LE.rom 0) (IE.var .i64 1000) 0) (IE.lit 1099511627776))) :: pcrright1_2) (some [(G.b (BE.and (BE.and (BE.le (IE.lit 1) (IE.var .i64 1)) (BE.le (IE.var .i64 1) (IE.lit 1099511627776))) (BE.and (BE.and (BE.le (IE.lit 1) (IE.len (LE.rom 0))) (BE.le (IE.len (LE.rom 0)) (IE.lit 64))) (BE.and (BE.eq (IE.len (LE.rom 1)) (IE.len (LE.rom 0))) (BE.and (BE.fn 1 (AL.lst (LE.rom 0) AL.nil)) (BE.fn 2 (AL.lst (LE.rom 1) AL.nil)))))) (BE.lit false))]))
def wrright1_6 : VW := (VW.done ((BE.not (BE.le (IE.lit 0) (IE.cel .i64 (LE.rom 0) (IE.var .i64 1000) 0))) :: pcrright1_1) (some [(G.b (BE.and (BE.and (BE.le (IE.lit 1) (IE.var .i64 1)) (BE.le (IE.var .i64 1) (IE.lit 1099511627776))) (BE.and (BE.and (BE.le (IE.lit 1) (IE.len (LE.rom 0))) (BE.le (IE.len (LE.rom 0)) (IE.lit 64))) (BE.and (BE.eq (IE.len (LE.rom 1)) (IE.len (LE.rom 0))) (BE.and (BE.fn 1 (AL.lst (LE.rom 0) AL.nil)) (BE.fn 2 (AL.lst (LE.rom 1) AL.nil)))))) (BE.lit false))]))
def vwrright1 : List VW := [wrright1_0, wrright1_1, wrright1_2, wrright1_3, wrright1_4, wrright1_5, wrright1_6]
def vwrright : Nat → List VW
  | 0 => vwrright0
  | 1 => vwrright1
  | _ => []
end
def invrright : Nat → Lt → Prop
  | 1, l => Sx.allP (pO (l.z.rl 0)) (l.i .i64 1000).toNat = true ∧ Sx.allP (pI (l.z.rl 1)) (l.i .i64 1000).toNat = true
  | _, _ => True
def msrright : Nat → Lt → Nat
  | 0, l => (l.z.rl 0).length + 1
  | 1, l => (l.z.rl 0).length - (l.i .i64 1000).toNat
  | _, _ => 0
theorem vcrright0_0 : VC TTrright invrright msrright 0 (startF 43 cRRight.pat [.lit true]) wrright0_0 := by
  intro ρ kn hi hp
  have hF : ρ.z.F = lnk.Φ := kn.F
  simp only [h_nil, h_cons, d_le, d_eq, d_not, d_var, d_lit, d_cel, d_leq, d_fn, d_and, d_iff, IE.den, LE.den, AL.den, lenV, true_and, and_true, pcrright0_4, pcrright0_3, pcrright0_2, pcrright0_1, pcrright0_0, hF, pb1, pb2, pb4, pb5, pb6] at hp
  obtain ⟨p1, p2, p3, p4, p5⟩ := hp
  refine (show (Sx.allP (pO (ρ.z.rl 0)) (0 : Int).toNat = true ∧ Sx.allP (pI (ρ.z.rl 1)) (0 : Int).toNat = true) ∧ (((ρ.z.rl 0).length - (0 : Int).toNat : Nat) < (ρ.z.rl 0).length + 1) from ?_)
  exact ⟨⟨rfl, rfl⟩, by omega⟩
def ivrright1 (ρ : Rho) : Prop := Sx.allP (pO (ρ.z.rl 0)) (ρ.i .i64 1000).toNat = true ∧ Sx.allP (pI (ρ.z.rl 1)) (ρ.i .i64 1000).toNat = true
theorem vcgrright1_1 : VC TTrright invrright msrright 1 trright1 wrright1_3 ∧ VC TTrright invrright msrright 1 trright1 wrright1_4 ∧ VC TTrright invrright msrright 1 trright1 wrright1_5 ∧ VC TTrright invrright msrright 1 trright1 wrright1_6 := by
  refine ⟨?_, ?_, ?_, ?_⟩
  all_goals
    intro ρ kn hi hp
    have hi : ivrright1 ρ := hi
    unfold ivrright1 at hi
    have hF : ρ.z.F = lnk.Φ := kn.F
    simp only [h_nil, h_cons, d_le, d_eq, d_not, d_var, d_lit, d_cel, d_leq, d_fn, d_and, d_iff, IE.den, LE.den, AL.den, lenV, true_and, and_true, pcrright1_5, pcrright1_4, pcrright1_3, pcrright1_2, pcrright1_1, pcrright1_0, hF, pb1, pb2, pb4, pb5, pb6] at hp
    have p1 := And.left hp
    replace hp := And.right hp
    repeat (have _ := And.left hp; replace hp := And.right hp)
    refine all_cons (show (((decide ((1 : Int) ≤ (ρ.i .i64 1))) && (decide ((ρ.i .i64 1) ≤ (1099511627776 : Int)))) && (((decide ((1 : Int) ≤ (((ρ.z.rl 0).length : Nat) : Int))) && (decide ((((ρ.z.rl 0).length : Nat) : Int) ≤ (64 : Int)))) && ((decide ((((ρ.z.rl 1).length : Nat) : Int) = (((ρ.z.rl 0).length : Nat) : Int))) && ((ρ.z.F.b 1 [.lst (ρ.z.rl 0)]) && (ρ.z.F.b 2 [.lst (ρ.z.rl 1)]))))) = false from ?_) (all_nil)
    all_goals try simp only [hF, pb1, pb2, pb4, pb5, pb6]
    refine Bool.eq_false_iff.2 fun hh => ?_
    simp only [Bool.and_eq_true, decide_eq_true_eq] at hh
    obtain ⟨⟨_, _⟩, ⟨_, _⟩, _, hO, hI⟩ := hh
    have a : outN (Sx.atI (ρ.z.rl 0) (ρ.i .i64 1000).toNat 0) = true := all_at hO (i := (ρ.i .i64 1000).toNat) (by omega)
    have b : inN (Sx.atI (ρ.z.rl 1) (ρ.i .i64 1000).toNat 0) (Sx.atI (ρ.z.rl 1) (ρ.i .i64 1000).toNat 1) = true := all_at hI (i := (ρ.i .i64 1000).toNat) (by omega)
    rw [← at_z (by omega), out_iff] at a
    rw [← at_z (by omega), ← at_z (by omega), in_iff] at b
    try simp only [stamp_iff] at *
    omega
theorem vcrright1_0 : VC TTrright invrright msrright 1 trright1 wrright1_0 := by
  intro ρ kn hi hp
  have hi : ivrright1 ρ := hi
  unfold ivrright1 at hi
  have hF : ρ.z.F = lnk.Φ := kn.F
  simp only [h_nil, h_cons, d_le, d_eq, d_not, d_var, d_lit, d_cel, d_leq, d_fn, d_and, d_iff, IE.den, LE.den, AL.den, lenV, true_and, and_true, pcrright1_0, hF, pb1, pb2, pb4, pb5, pb6] at hp
  obtain ⟨p1, p2, p3, p4, p5, p6, p7, p8, p9⟩ := hp
  refine all_cons (show (((decide ((1 : Int) ≤ (ρ.i .i64 1))) && (decide ((ρ.i .i64 1) ≤ (1099511627776 : Int)))) && (((decide ((1 : Int) ≤ (((ρ.z.rl 0).length : Nat) : Int))) && (decide ((((ρ.z.rl 0).length : Nat) : Int) ≤ (64 : Int)))) && ((decide ((((ρ.z.rl 1).length : Nat) : Int) = (((ρ.z.rl 0).length : Nat) : Int))) && ((ρ.z.F.b 1 [.lst (ρ.z.rl 0)]) && (ρ.z.F.b 2 [.lst (ρ.z.rl 1)]))))) = true from ?_) (all_nil)
  all_goals try simp only [hF, pb1, pb2, pb4, pb5, pb6]
  obtain ⟨h1, h2⟩ := hi
  have e : (ρ.i .i64 1000).toNat = (ρ.z.rl 0).length := by omega
  have e1 : (ρ.z.rl 1).length = (ρ.z.rl 0).length := by omega
  rw [e] at h1 h2
  have h3 : Sx.allP (pI (ρ.z.rl 1)) (ρ.z.rl 1).length = true := by rw [e1]; exact h2
  simp only [h1, h3, Bool.and_eq_true, decide_eq_true_eq, and_true]
  omega
theorem vcrright1_1 : VC TTrright invrright msrright 1 trright1 wrright1_1 := by
  intro ρ kn hi hp
  have hi : ivrright1 ρ := hi
  unfold ivrright1 at hi
  have hF : ρ.z.F = lnk.Φ := kn.F
  simp only [h_nil, h_cons, d_le, d_eq, d_not, d_var, d_lit, d_cel, d_leq, d_fn, d_and, d_iff, IE.den, LE.den, AL.den, lenV, true_and, and_true, pcrright1_3, pcrright1_2, pcrright1_1, pcrright1_0, hF, pb1, pb2, pb4, pb5, pb6] at hp
  obtain ⟨p1, p2, p3, p4, p5, p6, p7, p8, p9, p10, p11, p12⟩ := hp
  refine (show (Sx.allP (pO (ρ.z.rl 0)) ((ρ.i .i64 1000) + (1 : Int)).toNat = true ∧ Sx.allP (pI (ρ.z.rl 1)) ((ρ.i .i64 1000) + (1 : Int)).toNat = true) ∧ (((ρ.z.rl 0).length - ((ρ.i .i64 1000) + (1 : Int)).toNat : Nat) < (ρ.z.rl 0).length - (ρ.i .i64 1000).toNat) from ?_)
  obtain ⟨h1, h2⟩ := hi
  try simp only [stamp_iff] at *
  refine ⟨⟨all_s (by omega) h1 ?_, all_s (by omega) h2 ?_⟩, by omega⟩
  · show outN (Sx.atI (ρ.z.rl 0) (ρ.i .i64 1000).toNat 0) = true
    rw [← at_z (by omega), out_iff]; omega
  · show inN (Sx.atI (ρ.z.rl 1) (ρ.i .i64 1000).toNat 0) (Sx.atI (ρ.z.rl 1) (ρ.i .i64 1000).toNat 1) = true
    rw [← at_z (by omega), ← at_z (by omega), in_iff]; omega
theorem vcrright1_2 : VC TTrright invrright msrright 1 trright1 wrright1_2 := by
  intro ρ kn hi hp
  have hi : ivrright1 ρ := hi
  unfold ivrright1 at hi
  have hF : ρ.z.F = lnk.Φ := kn.F
  simp only [h_nil, h_cons, d_le, d_eq, d_not, d_var, d_lit, d_cel, d_leq, d_fn, d_and, d_iff, IE.den, LE.den, AL.den, lenV, true_and, and_true, pcrright1_5, pcrright1_4, pcrright1_3, pcrright1_2, pcrright1_1, pcrright1_0, hF, pb1, pb2, pb4, pb5, pb6] at hp
  obtain ⟨p1, p2, p3, p4, p5, p6, p7, p8, p9, p10, p11, p12, p13, p14⟩ := hp
  refine (show (Sx.allP (pO (ρ.z.rl 0)) ((ρ.i .i64 1000) + (1 : Int)).toNat = true ∧ Sx.allP (pI (ρ.z.rl 1)) ((ρ.i .i64 1000) + (1 : Int)).toNat = true) ∧ (((ρ.z.rl 0).length - ((ρ.i .i64 1000) + (1 : Int)).toNat : Nat) < (ρ.z.rl 0).length - (ρ.i .i64 1000).toNat) from ?_)
  obtain ⟨h1, h2⟩ := hi
  try simp only [stamp_iff] at *
  refine ⟨⟨all_s (by omega) h1 ?_, all_s (by omega) h2 ?_⟩, by omega⟩
  · show outN (Sx.atI (ρ.z.rl 0) (ρ.i .i64 1000).toNat 0) = true
    rw [← at_z (by omega), out_iff]; omega
  · show inN (Sx.atI (ρ.z.rl 1) (ρ.i .i64 1000).toNat 0) (Sx.atI (ρ.z.rl 1) (ρ.i .i64 1000).toNat 1) = true
    rw [← at_z (by omega), ← at_z (by omega), in_iff]; omega
theorem vcsrright0 : ∀ v ∈ vwrright 0, VC TTrright invrright msrright 0 (startF 43 cRRight.pat [.lit true]) v := all_cons vcrright0_0 (all_cons (fun _ _ _ _ => all_nil) (all_cons (fun _ _ _ _ => all_nil) (all_cons (fun _ _ _ _ => all_nil) (all_cons (fun _ _ _ _ => all_nil) (all_cons (fun _ _ _ _ => all_nil) (all_nil))))))
theorem okrright0 : cfgOk (startF 43 cRRight.pat [.lit true]) = true := by kernel_rfl
theorem sgrright0 : segL cRRight.roms cRRight (seg TTrright selrright 1500 tmrright (startF 43 cRRight.pat [.lit true])) = (true, codesR tmrright (views (seg TTrright selrright 1500 tmrright (startF 43 cRRight.pat [.lit true]))), vwrright 0) := by kernel_rfl
theorem vcsrright1 : ∀ v ∈ vwrright 1, VC TTrright invrright msrright 1 trright1 v := all_cons vcrright1_0 (all_cons vcrright1_1 (all_cons vcrright1_2 (all_cons vcgrright1_1.1 (all_cons vcgrright1_1.2.1 (all_cons vcgrright1_1.2.2.1 (all_cons vcgrright1_1.2.2.2 (all_nil)))))))
theorem okrright1 : cfgOk trright1 = true := by kernel_rfl
theorem sgrright1 : segL cRRight.roms cRRight (seg TTrright selrright 1500 tmrright trright1) = (true, codesR tmrright (views (seg TTrright selrright 1500 tmrright trright1)), vwrright 1) := by kernel_rfl
theorem lnrright0 : ∀ ρ, Known TTrright (startF 43 cRRight.pat [.lit true]) ρ → invrright 0 ρ.lt → Holds ρ (leanOf (Cfg.pc (startF 43 cRRight.pat [.lit true]))) := by
  intro ρ _ _
  exact (show Holds ρ [] from fun p hp => by cases hp)
theorem lnrright1 : ∀ ρ, Known TTrright trright1 ρ → invrright 1 ρ.lt → Holds ρ (leanOf (Cfg.pc trright1)) := by
  intro ρ _ _
  exact (show Holds ρ [] from fun p hp => by cases hp)
theorem told_rright : Sx.Told lnk.Φ cRRight := by
  refine told_of (cs := [cStampR]) (all_cons told_stampR (all_nil)) (sel := selrright) 1500 tmrright invrright msrright vwrright 0 (pc0 := [.lit true]) (by kernel_rfl) (by kernel_rfl) (by kernel_rfl) (post_nil rfl) ?_ ?_ ?_ rfl (fun ρ _ _ => by simp [Holds, BE.den]) (fun _ _ _ _ => trivial) ?_
  · intro k C h
    have := lk_mem h
    simp only [tmrright, List.mem_cons, Prod.mk.injEq, List.not_mem_nil, or_false] at this
    rcases this with ⟨rfl, rfl⟩ | ⟨rfl, rfl⟩
    · exact okrright0
    · exact okrright1
  · intro k C h
    have := lk_mem h
    simp only [tmrright, List.mem_cons, Prod.mk.injEq, List.not_mem_nil, or_false] at this
    rcases this with ⟨rfl, rfl⟩ | ⟨rfl, rfl⟩
    · exact sgrright0
    · exact sgrright1
  · intro k C h
    have := lk_mem h
    simp only [tmrright, List.mem_cons, Prod.mk.injEq, List.not_mem_nil, or_false] at this
    rcases this with ⟨rfl, rfl⟩ | ⟨rfl, rfl⟩
    · exact vcsrright0
    · exact vcsrright1
  · intro k C h
    have := lk_mem h
    simp only [tmrright, List.mem_cons, Prod.mk.injEq, List.not_mem_nil, or_false] at this
    rcases this with ⟨rfl, rfl⟩ | ⟨rfl, rfl⟩
    · exact lnrright0
    · exact lnrright1
noncomputable section
abbrev TTrtakeA : Tab := T lnk.Φ cRTakeA.roms [cStampR, cRRight]
def wrtakeA_0 : VW := (VW.done [(BE.lit true), (BE.le (IE.lit 1) (IE.var .i64 1)), (BE.le (IE.var .i64 1) (IE.lit 1099511627776)), (BE.le (IE.lit 1) (IE.len (LE.rom 0))), (BE.le (IE.len (LE.rom 0)) (IE.lit 64)), (BE.eq (IE.len (LE.rom 1)) (IE.len (LE.rom 0))), (BE.fn 1 (AL.lst (LE.rom 0) AL.nil)), (BE.fn 2 (AL.lst (LE.rom 1) AL.nil)), (BE.fn 4 (AL.int .i64 (IE.var .i64 3) (AL.int .i64 (IE.var .i64 4) AL.nil))), (BE.le (IE.lit 0) (IE.var .i64 2)), (BE.not (BE.le (IE.len (LE.rom 0)) (IE.var .i64 2))), (BE.not (BE.le (IE.var .i64 3) (IE.cel .i64 (LE.rom 1) (IE.var .i64 2) 0)))] (some [(G.i (IE.len (LE.set (LE.rom 1) (IE.var .i64 2) (AL.int .i64 (IE.var .i64 3) (AL.int .i64 (IE.var .i64 4) AL.nil)))) (IE.len (LE.rom 1))), (G.i (IE.len (LE.set (LE.rom 1) (IE.var .i64 2) (AL.int .i64 (IE.var .i64 3) (AL.int .i64 (IE.var .i64 4) AL.nil)))) (IE.len (LE.rom 1)))]))
def vwrtakeA : List VW := [wrtakeA_0]
end
theorem vcrtakeA_0 : VD TTrtakeA (st0 cRTakeA) wrtakeA_0 := by
  intro ρ kn hp
  have hF : ρ.z.F = lnk.Φ := kn.F
  simp only [h_nil, h_cons, d_le, d_eq, d_not, d_var, d_lit, d_cel, d_leq, d_fn, d_and, d_iff, IE.den, LE.den, AL.den, lenV, true_and, and_true, hF, pb1, pb2, pb4, pb5, pb6] at hp
  obtain ⟨p1, p2, p3, p4, p5, p6, p7, p8, p9, p10, p11⟩ := hp
  refine all_cons (show ((((ρ.z.rl 1).set (ρ.i .i64 2).toNat [Go.Value.int .i64 (ρ.i .i64 3), Go.Value.int .i64 (ρ.i .i64 4)]).length : Nat) : Int) = (((ρ.z.rl 1).length : Nat) : Int) from ?_) (all_cons (show ((((ρ.z.rl 1).set (ρ.i .i64 2).toNat [Go.Value.int .i64 (ρ.i .i64 3), Go.Value.int .i64 (ρ.i .i64 4)]).length : Nat) : Int) = (((ρ.z.rl 1).length : Nat) : Int) from ?_) (all_nil))
  all_goals try simp only [hF, pb1, pb2, pb4, pb5, pb6]
  all_goals
    rw [List.length_set]
theorem told_rtakeA : Sx.Told lnk.Φ cRTakeA := told_vw (cs := [cStampR, cRRight]) (all_cons told_stampR (all_cons told_rright (all_nil))) 6000 vwrtakeA (by kernel_rfl) (by kernel_rfl) (by kernel_rfl) post_rA (by kernel_rfl) (by kernel_rfl) (all_cons vcrtakeA_0 (all_nil))
noncomputable section
abbrev TTrtakeB : Tab := T lnk.Φ cRTakeB.roms [cStampR, cRRight]
def wrtakeB_0 : VW := (VW.done [(BE.lit true), (BE.le (IE.lit 1) (IE.var .i64 1)), (BE.le (IE.var .i64 1) (IE.lit 1099511627776)), (BE.le (IE.lit 1) (IE.len (LE.rom 0))), (BE.le (IE.len (LE.rom 0)) (IE.lit 64)), (BE.eq (IE.len (LE.rom 1)) (IE.len (LE.rom 0))), (BE.fn 1 (AL.lst (LE.rom 0) AL.nil)), (BE.fn 2 (AL.lst (LE.rom 1) AL.nil)), (BE.fn 4 (AL.int .i64 (IE.var .i64 3) (AL.int .i64 (IE.var .i64 4) AL.nil))), (BE.le (IE.lit 0) (IE.var .i64 2)), (BE.not (BE.le (IE.len (LE.rom 0)) (IE.var .i64 2))), (BE.eq (IE.var .i64 3) (IE.cel .i64 (LE.rom 1) (IE.var .i64 2) 0)), (BE.not (BE.le (IE.var .i64 4) (IE.cel .i64 (LE.rom 1) (IE.var .i64 2) 1)))] (some [(G.i (IE.len (LE.set (LE.rom 1) (IE.var .i64 2) (AL.int .i64 (IE.var .i64 3) (AL.int .i64 (IE.var .i64 4) AL.nil)))) (IE.len (LE.rom 1))), (G.i (IE.len (LE.set (LE.rom 1) (IE.var .i64 2) (AL.int .i64 (IE.var .i64 3) (AL.int .i64 (IE.var .i64 4) AL.nil)))) (IE.len (LE.rom 1)))]))
def vwrtakeB : List VW := [wrtakeB_0]
end
theorem vcrtakeB_0 : VD TTrtakeB (st0 cRTakeB) wrtakeB_0 := by
  intro ρ kn hp
  have hF : ρ.z.F = lnk.Φ := kn.F
  simp only [h_nil, h_cons, d_le, d_eq, d_not, d_var, d_lit, d_cel, d_leq, d_fn, d_and, d_iff, IE.den, LE.den, AL.den, lenV, true_and, and_true, hF, pb1, pb2, pb4, pb5, pb6] at hp
  obtain ⟨p1, p2, p3, p4, p5, p6, p7, p8, p9, p10, p11, p12⟩ := hp
  refine all_cons (show ((((ρ.z.rl 1).set (ρ.i .i64 2).toNat [Go.Value.int .i64 (ρ.i .i64 3), Go.Value.int .i64 (ρ.i .i64 4)]).length : Nat) : Int) = (((ρ.z.rl 1).length : Nat) : Int) from ?_) (all_cons (show ((((ρ.z.rl 1).set (ρ.i .i64 2).toNat [Go.Value.int .i64 (ρ.i .i64 3), Go.Value.int .i64 (ρ.i .i64 4)]).length : Nat) : Int) = (((ρ.z.rl 1).length : Nat) : Int) from ?_) (all_nil))
  all_goals try simp only [hF, pb1, pb2, pb4, pb5, pb6]
  all_goals
    rw [List.length_set]
theorem told_rtakeB : Sx.Told lnk.Φ cRTakeB := told_vw (cs := [cStampR, cRRight]) (all_cons told_stampR (all_cons told_rright (all_nil))) 6000 vwrtakeB (by kernel_rfl) (by kernel_rfl) (by kernel_rfl) post_rB (by kernel_rfl) (by kernel_rfl) (all_cons vcrtakeB_0 (all_nil))
noncomputable section
abbrev TTrtakeC : Tab := T lnk.Φ cRTakeC.roms [cStampR, cRRight]
def pcrtakeC_0 : List BE := [(BE.lit true), (BE.le (IE.lit 1) (IE.var .i64 1)), (BE.le (IE.var .i64 1) (IE.lit 1099511627776)), (BE.le (IE.lit 1) (IE.len (LE.rom 0))), (BE.le (IE.len (LE.rom 0)) (IE.lit 64)), (BE.eq (IE.len (LE.rom 1)) (IE.len (LE.rom 0))), (BE.fn 1 (AL.lst (LE.rom 0) AL.nil)), (BE.fn 2 (AL.lst (LE.rom 1) AL.nil)), (BE.fn 4 (AL.int .i64 (IE.var .i64 3) (AL.int .i64 (IE.var .i64 4) AL.nil))), (BE.le (IE.lit 0) (IE.var .i64 2)), (BE.not (BE.le (IE.len (LE.rom 0)) (IE.var .i64 2))), (BE.eq (IE.var .i64 3) (IE.cel .i64 (LE.rom 1) (IE.var .i64 2) 0)), (BE.le (IE.var .i64 4) (IE.cel .i64 (LE.rom 1) (IE.var .i64 2) 1))]
def wrtakeC_0 : VW := (VW.done ((BE.eq (IE.var .i64 4) (IE.cel .i64 (LE.rom 1) (IE.var .i64 2) 1)) :: pcrtakeC_0) (some []))
def wrtakeC_1 : VW := (VW.done ((BE.not (BE.eq (IE.var .i64 4) (IE.cel .i64 (LE.rom 1) (IE.var .i64 2) 1))) :: pcrtakeC_0) (some []))
def vwrtakeC : List VW := [wrtakeC_0, wrtakeC_1]
end
theorem vcrtakeC_0 : VD TTrtakeC (st0 cRTakeC) wrtakeC_0 := by
  intro ρ kn hp
  exact all_nil
theorem vcrtakeC_1 : VD TTrtakeC (st0 cRTakeC) wrtakeC_1 := by
  intro ρ kn hp
  exact all_nil
theorem told_rtakeC : Sx.Told lnk.Φ cRTakeC := told_vw (cs := [cStampR, cRRight]) (all_cons told_stampR (all_cons told_rright (all_nil))) 6000 vwrtakeC (by kernel_rfl) (by kernel_rfl) (by kernel_rfl) (post_nil rfl) (by kernel_rfl) (by kernel_rfl) (all_cons vcrtakeC_0 (all_cons vcrtakeC_1 (all_nil)))
noncomputable section
abbrev TTrtakeD : Tab := T lnk.Φ cRTakeD.roms [cStampR, cRRight]
def wrtakeD_0 : VW := (VW.done [(BE.lit true), (BE.le (IE.lit 1) (IE.var .i64 1)), (BE.le (IE.var .i64 1) (IE.lit 1099511627776)), (BE.le (IE.lit 1) (IE.len (LE.rom 0))), (BE.le (IE.len (LE.rom 0)) (IE.lit 64)), (BE.eq (IE.len (LE.rom 1)) (IE.len (LE.rom 0))), (BE.fn 1 (AL.lst (LE.rom 0) AL.nil)), (BE.fn 2 (AL.lst (LE.rom 1) AL.nil)), (BE.fn 4 (AL.int .i64 (IE.var .i64 3) (AL.int .i64 (IE.var .i64 4) AL.nil))), (BE.le (IE.lit 0) (IE.var .i64 2)), (BE.not (BE.le (IE.len (LE.rom 0)) (IE.var .i64 2))), (BE.not (BE.le (IE.cel .i64 (LE.rom 1) (IE.var .i64 2) 0) (IE.var .i64 3)))] (some []))
def vwrtakeD : List VW := [wrtakeD_0]
end
theorem vcrtakeD_0 : VD TTrtakeD (st0 cRTakeD) wrtakeD_0 := by
  intro ρ kn hp
  exact all_nil
theorem told_rtakeD : Sx.Told lnk.Φ cRTakeD := told_vw (cs := [cStampR, cRRight]) (all_cons told_stampR (all_cons told_rright (all_nil))) 6000 vwrtakeD (by kernel_rfl) (by kernel_rfl) (by kernel_rfl) (post_nil rfl) (by kernel_rfl) (by kernel_rfl) (all_cons vcrtakeD_0 (all_nil))
end Go.Proofs.Ytjgkaimgocnkmaa.lnk
