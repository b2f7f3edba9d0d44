/- Layer link: what may be, told. No condition. -/
import Derived.Test.YtjgkaimgocnkmaaMa
set_option linter.unusedVariables false
set_option linter.unusedSimpArgs false
set_option linter.deprecated false
namespace Go.Proofs.Ytjgkaimgocnkmaa.lnk
open Go Go.Proofs.Ytjgkaimgocnkmaa.Sx
theorem told_works : Sx.Told lnk.Φ cWorks := told_auto (cs := []) (all_nil) 60000 (by kernel_rfl) (by kernel_rfl) (by kernel_rfl) (post_nil rfl) (by kernel_rfl) (by kernel_rfl)
noncomputable section
abbrev TTstamp : Tab := T lnk.Φ cStamp.roms []
def pcstamp_0 : List BE := [(BE.lit true)]
def pcstamp_1 : List BE := ((BE.le (IE.lit 1) (IE.var .i64 1)) :: pcstamp_0)
def pcstamp_2 : List BE := ((BE.le (IE.var .i64 1) (IE.lit 1099511627776)) :: pcstamp_1)
def wstamp_0 : VW := (VW.done ((BE.le (IE.lit 1) (IE.var .i64 2)) :: pcstamp_2) (some [(G.b (BE.fn 4 (AL.int .i64 (IE.var .i64 1) (AL.int .i64 (IE.var .i64 2) AL.nil))) (BE.le (IE.var .i64 2) (IE.lit 1099511627776)))]))
def wstamp_1 : VW := (VW.done ((BE.not (BE.le (IE.lit 1) (IE.var .i64 2))) :: pcstamp_2) (some [(G.b (BE.fn 4 (AL.int .i64 (IE.var .i64 1) (AL.int .i64 (IE.var .i64 2) AL.nil))) (BE.lit false))]))
def wstamp_2 : VW := (VW.done ((BE.not (BE.le (IE.var .i64 1) (IE.lit 1099511627776))) :: pcstamp_1) (some [(G.b (BE.fn 4 (AL.int .i64 (IE.var .i64 1) (AL.int .i64 (IE.var .i64 2) AL.nil))) (BE.lit false))]))
def wstamp_3 : VW := (VW.done ((BE.not (BE.le (IE.lit 1) (IE.var .i64 1))) :: pcstamp_0) (some [(G.b (BE.fn 4 (AL.int .i64 (IE.var .i64 1) (AL.int .i64 (IE.var .i64 2) AL.nil))) (BE.lit false))]))
def vwstamp : List VW := [wstamp_0, wstamp_1, wstamp_2, wstamp_3]
end
theorem vcstamp_0 : VD TTstamp (st0 cStamp) wstamp_0 := by
  intro ρ kn hp
  have hF : ρ.z.F = lnk.Φ := kn.F
  simp only [h_nil, h_cons, d_le, d_eq, d_not, d_var, d_lit, d_cel, d_leq, d_fn, d_and, d_iff, IE.den, LE.den, AL.den, lenV, true_and, and_true, pcstamp_2, pcstamp_1, pcstamp_0, hF, pb1, pb2, pb4, pb5, pb6] at hp
  obtain ⟨p1, p2, p3⟩ := hp
  refine all_cons (show (ρ.z.F.b 4 [.int .i64 (ρ.i .i64 1), .int .i64 (ρ.i .i64 2)]) = (decide ((ρ.i .i64 2) ≤ (1099511627776 : Int))) from ?_) (all_nil)
  all_goals try simp only [hF, pb1, pb2, pb4, pb5, pb6]
  all_goals first | omega | skip
  all_goals
    apply beq_of
    simp only [out_iff, stamp_iff, in_iff, decide_eq_true_eq, Bool.and_eq_true, Bool.not_eq_true', Bool.false_eq_true, true_iff, iff_true, false_iff, iff_false, decide_eq_false_iff_not] at *
    omega
theorem vcstamp_1 : VD TTstamp (st0 cStamp) wstamp_1 := by
  intro ρ kn hp
  have hF : ρ.z.F = lnk.Φ := kn.F
  simp only [h_nil, h_cons, d_le, d_eq, d_not, d_var, d_lit, d_cel, d_leq, d_fn, d_and, d_iff, IE.den, LE.den, AL.den, lenV, true_and, and_true, pcstamp_2, pcstamp_1, pcstamp_0, hF, pb1, pb2, pb4, pb5, pb6] at hp
  obtain ⟨p1, p2, p3⟩ := hp
  refine all_cons (show (ρ.z.F.b 4 [.int .i64 (ρ.i .i64 1), .int .i64 (ρ.i .i64 2)]) = false from ?_) (all_nil)
  all_goals try simp only [hF, pb1, pb2, pb4, pb5, pb6]
  all_goals first | omega | skip
  all_goals
    apply beq_of
    simp only [out_iff, stamp_iff, in_iff, decide_eq_true_eq, Bool.and_eq_true, Bool.not_eq_true', Bool.false_eq_true, true_iff, iff_true, false_iff, iff_false, decide_eq_false_iff_not] at *
    omega
theorem vcstamp_2 : VD TTstamp (st0 cStamp) wstamp_2 := by
  intro ρ kn hp
  have hF : ρ.z.F = lnk.Φ := kn.F
  simp only [h_nil, h_cons, d_le, d_eq, d_not, d_var, d_lit, d_cel, d_leq, d_fn, d_and, d_iff, IE.den, LE.den, AL.den, lenV, true_and, and_true, pcstamp_1, pcstamp_0, hF, pb1, pb2, pb4, pb5, pb6] at hp
  obtain ⟨p1, p2⟩ := hp
  refine all_cons (show (ρ.z.F.b 4 [.int .i64 (ρ.i .i64 1), .int .i64 (ρ.i .i64 2)]) = false from ?_) (all_nil)
  all_goals try simp only [hF, pb1, pb2, pb4, pb5, pb6]
  all_goals first | omega | skip
  all_goals
    apply beq_of
    simp only [out_iff, stamp_iff, in_iff, decide_eq_true_eq, Bool.and_eq_true, Bool.not_eq_true', Bool.false_eq_true, true_iff, iff_true, false_iff, iff_false, decide_eq_false_iff_not] at *
    omega
theorem vcstamp_3 : VD TTstamp (st0 cStamp) wstamp_3 := by
  intro ρ kn hp
  have hF : ρ.z.F = lnk.Φ := kn.F
  simp only [h_nil, h_cons, d_le, d_eq, d_not, d_var, d_lit, d_cel, d_leq, d_fn, d_and, d_iff, IE.den, LE.den, AL.den, lenV, true_and, and_true, pcstamp_0, hF, pb1, pb2, pb4, pb5, pb6] at hp
  have p1 := hp
  refine all_cons (show (ρ.z.F.b 4 [.int .i64 (ρ.i .i64 1), .int .i64 (ρ.i .i64 2)]) = false from ?_) (all_nil)
  all_goals try simp only [hF, pb1, pb2, pb4, pb5, pb6]
  all_goals first | omega | skip
  all_goals
    apply beq_of
    simp only [out_iff, stamp_iff, in_iff, decide_eq_true_eq, Bool.and_eq_true, Bool.not_eq_true', Bool.false_eq_true, true_iff, iff_true, false_iff, iff_false, decide_eq_false_iff_not] at *
    omega
theorem told_stamp : Sx.Told lnk.Φ cStamp := told_vw (cs := []) (all_nil) 900 vwstamp (by kernel_rfl) (by kernel_rfl) (by kernel_rfl) (post_nil rfl) (by kernel_rfl) (by kernel_rfl) (all_cons vcstamp_0 (all_cons vcstamp_1 (all_cons vcstamp_2 (all_cons vcstamp_3 (all_nil)))))
noncomputable section
abbrev TTinn : Tab := T lnk.Φ cIn.roms [cStamp]
def pcinn_0 : List BE := [(BE.lit true)]
def pcinn_1 : List BE := ((BE.eq (IE.var .i64 1) (IE.lit 0)) :: pcinn_0)
def winn_0 : VW := (VW.done ((BE.eq (IE.var .i64 2) (IE.lit 0)) :: pcinn_1) (some [(G.b (BE.fn 5 (AL.int .i64 (IE.var .i64 1) (AL.int .i64 (IE.var .i64 2) AL.nil))) (BE.lit true))]))
def winn_1 : VW := (VW.done ((BE.not (BE.eq (IE.var .i64 2) (IE.lit 0))) :: pcinn_1) (some [(G.b (BE.fn 5 (AL.int .i64 (IE.var .i64 1) (AL.int .i64 (IE.var .i64 2) AL.nil))) (BE.fn 4 (AL.int .i64 (IE.var .i64 1) (AL.int .i64 (IE.var .i64 2) AL.nil))))]))
def winn_2 : VW := (VW.done ((BE.not (BE.eq (IE.var .i64 1) (IE.lit 0))) :: pcinn_0) (some [(G.b (BE.fn 5 (AL.int .i64 (IE.var .i64 1) (AL.int .i64 (IE.var .i64 2) AL.nil))) (BE.fn 4 (AL.int .i64 (IE.var .i64 1) (AL.int .i64 (IE.var .i64 2) AL.nil))))]))
def vwinn : List VW := [winn_0, winn_1, winn_2]
end
theorem vcinn_0 : VD TTinn (st0 cIn) winn_0 := by
  intro ρ kn hp
  have hF : ρ.z.F = lnk.Φ := kn.F
  simp only [h_nil, h_cons, d_le, d_eq, d_not, d_var, d_lit, d_cel, d_leq, d_fn, d_and, d_iff, IE.den, LE.den, AL.den, lenV, true_and, and_true, pcinn_1, pcinn_0, hF, pb1, pb2, pb4, pb5, pb6] at hp
  obtain ⟨p1, p2⟩ := hp
  refine all_cons (show (ρ.z.F.b 5 [.int .i64 (ρ.i .i64 1), .int .i64 (ρ.i .i64 2)]) = true from ?_) (all_nil)
  all_goals try simp only [hF, pb1, pb2, pb4, pb5, pb6]
  all_goals first | omega | skip
  all_goals
    apply beq_of
    simp only [out_iff, stamp_iff, in_iff, decide_eq_true_eq, Bool.and_eq_true, Bool.not_eq_true', Bool.false_eq_true, true_iff, iff_true, false_iff, iff_false, decide_eq_false_iff_not] at *
    omega
theorem vcinn_1 : VD TTinn (st0 cIn) winn_1 := by
  intro ρ kn hp
  have hF : ρ.z.F = lnk.Φ := kn.F
  simp only [h_nil, h_cons, d_le, d_eq, d_not, d_var, d_lit, d_cel, d_leq, d_fn, d_and, d_iff, IE.den, LE.den, AL.den, lenV, true_and, and_true, pcinn_1, pcinn_0, hF, pb1, pb2, pb4, pb5, pb6] at hp
  obtain ⟨p1, p2⟩ := hp
  refine all_cons (show (ρ.z.F.b 5 [.int .i64 (ρ.i .i64 1), .int .i64 (ρ.i .i64 2)]) = (ρ.z.F.b 4 [.int .i64 (ρ.i .i64 1), .int .i64 (ρ.i .i64 2)]) from ?_) (all_nil)
  all_goals try simp only [hF, pb1, pb2, pb4, pb5, pb6]
  all_goals first | omega | skip
  all_goals
    apply beq_of
    simp only [out_iff, stamp_iff, in_iff, decide_eq_true_eq, Bool.and_eq_true, Bool.not_eq_true', Bool.false_eq_true, true_iff, iff_true, false_iff, iff_false, decide_eq_false_iff_not] at *
    omega
theorem vcinn_2 : VD TTinn (st0 cIn) winn_2 := by
  intro ρ kn hp
  have hF : ρ.z.F = lnk.Φ := kn.F
  simp only [h_nil, h_cons, d_le, d_eq, d_not, d_var, d_lit, d_cel, d_leq, d_fn, d_and, d_iff, IE.den, LE.den, AL.den, lenV, true_and, and_true, pcinn_0, hF, pb1, pb2, pb4, pb5, pb6] at hp
  have p1 := hp
  refine all_cons (show (ρ.z.F.b 5 [.int .i64 (ρ.i .i64 1), .int .i64 (ρ.i .i64 2)]) = (ρ.z.F.b 4 [.int .i64 (ρ.i .i64 1), .int .i64 (ρ.i .i64 2)]) from ?_) (all_nil)
  all_goals try simp only [hF, pb1, pb2, pb4, pb5, pb6]
  all_goals first | omega | skip
  all_goals
    apply beq_of
    simp only [out_iff, stamp_iff, in_iff, decide_eq_true_eq, Bool.and_eq_true, Bool.not_eq_true', Bool.false_eq_true, true_iff, iff_true, false_iff, iff_false, decide_eq_false_iff_not] at *
    omega
theorem told_inn : Sx.Told lnk.Φ cIn := told_vw (cs := [cStamp]) (all_cons told_stamp (all_nil)) 900 vwinn (by kernel_rfl) (by kernel_rfl) (by kernel_rfl) (post_nil rfl) (by kernel_rfl) (by kernel_rfl) (all_cons vcinn_0 (all_cons vcinn_1 (all_cons vcinn_2 (all_nil))))
noncomputable section
abbrev TToutt : Tab := T lnk.Φ cOut.roms []
def pcoutt_0 : List BE := [(BE.lit true)]
def pcoutt_1 : List BE := ((BE.not (BE.eq (IE.var .i64 1) (IE.lit 0))) :: pcoutt_0)
def woutt_0 : VW := (VW.done ((BE.eq (IE.var .i64 1) (IE.lit 0)) :: pcoutt_0) (some [(G.b (BE.fn 6 (AL.int .i64 (IE.var .i64 1) AL.nil)) (BE.lit true))]))
def woutt_1 : VW := (VW.done ((BE.le (IE.lit 1) (IE.var .i64 1)) :: pcoutt_1) (some [(G.b (BE.fn 6 (AL.int .i64 (IE.var .i64 1) AL.nil)) (BE.le (IE.var .i64 1) (IE.lit 1099511627776)))]))
def woutt_2 : VW := (VW.done ((BE.not (BE.le (IE.lit 1) (IE.var .i64 1))) :: pcoutt_1) (some [(G.b (BE.fn 6 (AL.int .i64 (IE.var .i64 1) AL.nil)) (BE.lit false))]))
def vwoutt : List VW := [woutt_0, woutt_1, woutt_2]
end
theorem vcoutt_0 : VD TToutt (st0 cOut) woutt_0 := by
  intro ρ kn hp
  have hF : ρ.z.F = lnk.Φ := kn.F
  simp only [h_nil, h_cons, d_le, d_eq, d_not, d_var, d_lit, d_cel, d_leq, d_fn, d_and, d_iff, IE.den, LE.den, AL.den, lenV, true_and, and_true, pcoutt_0, hF, pb1, pb2, pb4, pb5, pb6] at hp
  have p1 := hp
  refine all_cons (show (ρ.z.F.b 6 [.int .i64 (ρ.i .i64 1)]) = true from ?_) (all_nil)
  all_goals try simp only [hF, pb1, pb2, pb4, pb5, pb6]
  all_goals first | omega | skip
  all_goals
    apply beq_of
    simp only [out_iff, stamp_iff, in_iff, decide_eq_true_eq, Bool.and_eq_true, Bool.not_eq_true', Bool.false_eq_true, true_iff, iff_true, false_iff, iff_false, decide_eq_false_iff_not] at *
    omega
theorem vcoutt_1 : VD TToutt (st0 cOut) woutt_1 := by
  intro ρ kn hp
  have hF : ρ.z.F = lnk.Φ := kn.F
  simp only [h_nil, h_cons, d_le, d_eq, d_not, d_var, d_lit, d_cel, d_leq, d_fn, d_and, d_iff, IE.den, LE.den, AL.den, lenV, true_and, and_true, pcoutt_1, pcoutt_0, hF, pb1, pb2, pb4, pb5, pb6] at hp
  obtain ⟨p1, p2⟩ := hp
  refine all_cons (show (ρ.z.F.b 6 [.int .i64 (ρ.i .i64 1)]) = (decide ((ρ.i .i64 1) ≤ (1099511627776 : Int))) from ?_) (all_nil)
  all_goals try simp only [hF, pb1, pb2, pb4, pb5, pb6]
  all_goals first | omega | skip
  all_goals
    apply beq_of
    simp only [out_iff, stamp_iff, in_iff, decide_eq_true_eq, Bool.and_eq_true, Bool.not_eq_true', Bool.false_eq_true, true_iff, iff_true, false_iff, iff_false, decide_eq_false_iff_not] at *
    omega
theorem vcoutt_2 : VD TToutt (st0 cOut) woutt_2 := by
  intro ρ kn hp
  have hF : ρ.z.F = lnk.Φ := kn.F
  simp only [h_nil, h_cons, d_le, d_eq, d_not, d_var, d_lit, d_cel, d_leq, d_fn, d_and, d_iff, IE.den, LE.den, AL.den, lenV, true_and, and_true, pcoutt_1, pcoutt_0, hF, pb1, pb2, pb4, pb5, pb6] at hp
  obtain ⟨p1, p2⟩ := hp
  refine all_cons (show (ρ.z.F.b 6 [.int .i64 (ρ.i .i64 1)]) = false from ?_) (all_nil)
  all_goals try simp only [hF, pb1, pb2, pb4, pb5, pb6]
  all_goals first | omega | skip
  all_goals
    apply beq_of
    simp only [out_iff, stamp_iff, in_iff, decide_eq_true_eq, Bool.and_eq_true, Bool.not_eq_true', Bool.false_eq_true, true_iff, iff_true, false_iff, iff_false, decide_eq_false_iff_not] at *
    omega
theorem told_outt : Sx.Told lnk.Φ cOut := told_vw (cs := []) (all_nil) 900 vwoutt (by kernel_rfl) (by kernel_rfl) (by kernel_rfl) (post_nil rfl) (by kernel_rfl) (by kernel_rfl) (all_cons vcoutt_0 (all_cons vcoutt_1 (all_cons vcoutt_2 (all_nil))))
noncomputable section
abbrev TTallO : Tab := T lnk.Φ cAllO.roms [cOut]
def tallO1 : Cfg := { top := ⟨88, over (opqS 10000 18) [(1, (SV.func (Go.Fn.func 89) [] [])), (7, (SV.rom 0 (IE.lit 0) (IE.len (LE.rom 0)) none)), (8, (SV.int .i64 (IE.len (LE.rom 0)))), (9, (SV.int .i64 (IE.var .i64 1000)))], ogt (loopTodo (bodyOf (T lnk.Φ [] []) 88) 0), [], false, none⟩, rest := [], heap := [], next := 1, pc := .lit true :: ([] ++ [(BE.le (IE.lit 0) (IE.var .i64 1000)), (BE.le (IE.var .i64 1000) (IE.len (LE.rom 0)))]) }
def tmallO : List (Nat × Cfg) := [(0, startF 88 cAllO.pat [.lit true]), (1, tallO1)]
def selallO : Sel := [(88, 1, 0, 1)]
def wallO0_0 : VW := (VW.cut 1 [(BE.lit true)] (Sx.Sub.mk [(.i64, (1000, (IE.lit 0)))] [] [] [] [] []))
def vwallO0 : List VW := [wallO0_0]
def pcallO1_0 : List BE := [(BE.lit true), (BE.le (IE.lit 0) (IE.var .i64 1000)), (BE.le (IE.var .i64 1000) (IE.len (LE.rom 0)))]
def pcallO1_1 : List BE := ((BE.not (BE.le (IE.len (LE.rom 0)) (IE.var .i64 1000))) :: pcallO1_0)
def wallO1_0 : VW := (VW.done ((BE.le (IE.len (LE.rom 0)) (IE.var .i64 1000)) :: pcallO1_0) (some [(G.b (BE.fn 1 (AL.lst (LE.rom 0) AL.nil)) (BE.lit true))]))
def wallO1_1 : VW := (VW.cut 1 ((BE.fn 6 (AL.int .i64 (IE.cel .i64 (LE.rom 0) (IE.var .i64 1000) 0) AL.nil)) :: pcallO1_1) (Sx.Sub.mk [(.i64, (1000, (IE.add (IE.var .i64 1000) (IE.lit 1))))] [] [] [] [] []))
def wallO1_2 : VW := (VW.done ((BE.not (BE.fn 6 (AL.int .i64 (IE.cel .i64 (LE.rom 0) (IE.var .i64 1000) 0) AL.nil))) :: pcallO1_1) (some [(G.b (BE.fn 1 (AL.lst (LE.rom 0) AL.nil)) (BE.lit false))]))
def vwallO1 : List VW := [wallO1_0, wallO1_1, wallO1_2]
def vwallO : Nat → List VW
  | 0 => vwallO0
  | 1 => vwallO1
  | _ => []
end
def invallO : Nat → Lt → Prop
  | 1, l => Sx.allP (pO (l.z.rl 0)) (l.i .i64 1000).toNat = true
  | _, _ => True
def msallO : Nat → Lt → Nat
  | 0, l => (l.z.rl 0).length + 1
  | 1, l => (l.z.rl 0).length - (l.i .i64 1000).toNat
  | _, _ => 0
theorem vcallO0_0 : VC TTallO invallO msallO 0 (startF 88 cAllO.pat [.lit true]) wallO0_0 := by
  intro ρ kn hi hp
  have hF : ρ.z.F = lnk.Φ := kn.F
  simp only [h_nil, h_cons, d_le, d_eq, d_not, d_var, d_lit, d_cel, d_leq, d_fn, d_and, d_iff, IE.den, LE.den, AL.den, lenV, true_and, and_true, hF, pb1, pb2, pb4, pb5, pb6] at hp
  refine (show (Sx.allP (pO (ρ.z.rl 0)) (0 : Int).toNat = true) ∧ (((ρ.z.rl 0).length - (0 : Int).toNat : Nat) < (ρ.z.rl 0).length + 1) from ?_)
  exact ⟨rfl, by omega⟩
def ivallO1 (ρ : Rho) : Prop := Sx.allP (pO (ρ.z.rl 0)) (ρ.i .i64 1000).toNat = true
theorem vcallO1_0 : VC TTallO invallO msallO 1 tallO1 wallO1_0 := by
  intro ρ kn hi hp
  have hi : ivallO1 ρ := hi
  unfold ivallO1 at hi
  have hF : ρ.z.F = lnk.Φ := kn.F
  simp only [h_nil, h_cons, d_le, d_eq, d_not, d_var, d_lit, d_cel, d_leq, d_fn, d_and, d_iff, IE.den, LE.den, AL.den, lenV, true_and, and_true, pcallO1_0, hF, pb1, pb2, pb4, pb5, pb6] at hp
  obtain ⟨p1, p2, p3⟩ := hp
  refine all_cons (show (ρ.z.F.b 1 [.lst (ρ.z.rl 0)]) = true from ?_) (all_nil)
  all_goals try simp only [hF, pb1, pb2, pb4, pb5, pb6]
  rw [show (ρ.z.rl 0).length = (ρ.i .i64 1000).toNat by omega]; exact hi
theorem vcallO1_1 : VC TTallO invallO msallO 1 tallO1 wallO1_1 := by
  intro ρ kn hi hp
  have hi : ivallO1 ρ := hi
  unfold ivallO1 at hi
  have hF : ρ.z.F = lnk.Φ := kn.F
  simp only [h_nil, h_cons, d_le, d_eq, d_not, d_var, d_lit, d_cel, d_leq, d_fn, d_and, d_iff, IE.den, LE.den, AL.den, lenV, true_and, and_true, pcallO1_1, pcallO1_0, hF, pb1, pb2, pb4, pb5, pb6] at hp
  obtain ⟨p1, p2, p3, p4⟩ := hp
  refine (show (Sx.allP (pO (ρ.z.rl 0)) ((ρ.i .i64 1000) + (1 : Int)).toNat = true) ∧ (((ρ.z.rl 0).length - ((ρ.i .i64 1000) + (1 : Int)).toNat : Nat) < (ρ.z.rl 0).length - (ρ.i .i64 1000).toNat) from ?_)
  refine ⟨all_s (by omega) hi ?_, by omega⟩
  show outN (Sx.atI (ρ.z.rl 0) (ρ.i .i64 1000).toNat 0) = true
  rw [← at_z (by omega)]; exact p1
theorem vcallO1_2 : VC TTallO invallO msallO 1 tallO1 wallO1_2 := by
  intro ρ kn hi hp
  have hi : ivallO1 ρ := hi
  unfold ivallO1 at hi
  have hF : ρ.z.F = lnk.Φ := kn.F
  simp only [h_nil, h_cons, d_le, d_eq, d_not, d_var, d_lit, d_cel, d_leq, d_fn, d_and, d_iff, IE.den, LE.den, AL.den, lenV, true_and, and_true, pcallO1_1, pcallO1_0, hF, pb1, pb2, pb4, pb5, pb6] at hp
  obtain ⟨p1, p2, p3, p4⟩ := hp
  refine all_cons (show (ρ.z.F.b 1 [.lst (ρ.z.rl 0)]) = false from ?_) (all_nil)
  all_goals try simp only [hF, pb1, pb2, pb4, pb5, pb6]
  refine all_no (i := ρ.i .i64 1000) (by omega) (by omega) fun hh => p1 ?_
  have hh : outN (Sx.atI (ρ.z.rl 0) (ρ.i .i64 1000).toNat 0) = true := hh
  rw [← at_z (by omega)] at hh
  exact hh
theorem vcsallO0 : ∀ v ∈ vwallO 0, VC TTallO invallO msallO 0 (startF 88 cAllO.pat [.lit true]) v := all_cons vcallO0_0 (all_nil)
theorem okallO0 : cfgOk (startF 88 cAllO.pat [.lit true]) = true := by kernel_rfl
theorem sgallO0 : segL cAllO.roms cAllO (seg TTallO selallO 600 tmallO (startF 88 cAllO.pat [.lit true])) = (true, codesR tmallO (views (seg TTallO selallO 600 tmallO (startF 88 cAllO.pat [.lit true]))), vwallO 0) := by kernel_rfl
theorem vcsallO1 : ∀ v ∈ vwallO 1, VC TTallO invallO msallO 1 tallO1 v := all_cons vcallO1_0 (all_cons vcallO1_1 (all_cons vcallO1_2 (all_nil)))
theorem okallO1 : cfgOk tallO1 = true := by kernel_rfl
theorem sgallO1 : segL cAllO.roms cAllO (seg TTallO selallO 600 tmallO tallO1) = (true, codesR tmallO (views (seg TTallO selallO 600 tmallO tallO1)), vwallO 1) := by kernel_rfl
theorem lnallO0 : ∀ ρ, Known TTallO (startF 88 cAllO.pat [.lit true]) ρ → invallO 0 ρ.lt → Holds ρ (leanOf (Cfg.pc (startF 88 cAllO.pat [.lit true]))) := by
  intro ρ _ _
  exact (show Holds ρ [] from fun p hp => by cases hp)
theorem lnallO1 : ∀ ρ, Known TTallO tallO1 ρ → invallO 1 ρ.lt → Holds ρ (leanOf (Cfg.pc tallO1)) := by
  intro ρ _ _
  exact (show Holds ρ [] from fun p hp => by cases hp)
theorem told_allO : Sx.Told lnk.Φ cAllO := by
  refine told_of (cs := [cOut]) (all_cons told_outt (all_nil)) (sel := selallO) 600 tmallO invallO msallO vwallO 0 (pc0 := [.lit true]) (by kernel_rfl) (by kernel_rfl) (by kernel_rfl) (post_nil rfl) ?_ ?_ ?_ rfl (fun ρ _ _ => by simp [Holds, BE.den]) (fun _ _ _ _ => trivial) ?_
  · intro k C h
    have := lk_mem h
    simp only [tmallO, List.mem_cons, Prod.mk.injEq, List.not_mem_nil, or_false] at this
    rcases this with ⟨rfl, rfl⟩ | ⟨rfl, rfl⟩
    · exact okallO0
    · exact okallO1
  · intro k C h
    have := lk_mem h
    simp only [tmallO, List.mem_cons, Prod.mk.injEq, List.not_mem_nil, or_false] at this
    rcases this with ⟨rfl, rfl⟩ | ⟨rfl, rfl⟩
    · exact sgallO0
    · exact sgallO1
  · intro k C h
    have := lk_mem h
    simp only [tmallO, List.mem_cons, Prod.mk.injEq, List.not_mem_nil, or_false] at this
    rcases this with ⟨rfl, rfl⟩ | ⟨rfl, rfl⟩
    · exact vcsallO0
    · exact vcsallO1
  · intro k C h
    have := lk_mem h
    simp only [tmallO, List.mem_cons, Prod.mk.injEq, List.not_mem_nil, or_false] at this
    rcases this with ⟨rfl, rfl⟩ | ⟨rfl, rfl⟩
    · exact lnallO0
    · exact lnallO1
noncomputable section
abbrev TTallI : Tab := T lnk.Φ cAllI.roms [cIn]
def tallI1 : Cfg := { top := ⟨91, over (opqS 10000 18) [(1, (SV.func (Go.Fn.func 92) [] [])), (7, (SV.rom 0 (IE.lit 0) (IE.len (LE.rom 0)) none)), (8, (SV.int .i64 (IE.len (LE.rom 0)))), (9, (SV.int .i64 (IE.var .i64 1000)))], ogt (loopTodo (bodyOf (T lnk.Φ [] []) 91) 0), [], false, none⟩, rest := [], heap := [], next := 1, pc := .lit true :: ([] ++ [(BE.le (IE.lit 0) (IE.var .i64 1000)), (BE.le (IE.var .i64 1000) (IE.len (LE.rom 0)))]) }
def tmallI : List (Nat × Cfg) := [(0, startF 91 cAllI.pat [.lit true]), (1, tallI1)]
def selallI : Sel := [(91, 1, 0, 1)]
def wallI0_0 : VW := (VW.cut 1 [(BE.lit true)] (Sx.Sub.mk [(.i64, (1000, (IE.lit 0)))] [] [] [] [] []))
def vwallI0 : List VW := [wallI0_0]
def pcallI1_0 : List BE := [(BE.lit true), (BE.le (IE.lit 0) (IE.var .i64 1000)), (BE.le (IE.var .i64 1000) (IE.len (LE.rom 0)))]
def pcallI1_1 : List BE := ((BE.not (BE.le (IE.len (LE.rom 0)) (IE.var .i64 1000))) :: pcallI1_0)
def wallI1_0 : VW := (VW.done ((BE.le (IE.len (LE.rom 0)) (IE.var .i64 1000)) :: pcallI1_0) (some [(G.b (BE.fn 2 (AL.lst (LE.rom 0) AL.nil)) (BE.lit true))]))
def wallI1_1 : VW := (VW.cut 1 ((BE.fn 5 (AL.int .i64 (IE.cel .i64 (LE.rom 0) (IE.var .i64 1000) 0) (AL.int .i64 (IE.cel .i64 (LE.rom 0) (IE.var .i64 1000) 1) AL.nil))) :: pcallI1_1) (Sx.Sub.mk [(.i64, (1000, (IE.add (IE.var .i64 1000) (IE.lit 1))))] [] [] [] [] []))
def wallI1_2 : VW := (VW.done ((BE.not (BE.fn 5 (AL.int .i64 (IE.cel .i64 (LE.rom 0) (IE.var .i64 1000) 0) (AL.int .i64 (IE.cel .i64 (LE.rom 0) (IE.var .i64 1000) 1) AL.nil)))) :: pcallI1_1) (some [(G.b (BE.fn 2 (AL.lst (LE.rom 0) AL.nil)) (BE.lit false))]))
def vwallI1 : List VW := [wallI1_0, wallI1_1, wallI1_2]
def vwallI : Nat → List VW
  | 0 => vwallI0
  | 1 => vwallI1
  | _ => []
end
def invallI : Nat → Lt → Prop
  | 1, l => Sx.allP (pI (l.z.rl 0)) (l.i .i64 1000).toNat = true
  | _, _ => True
def msallI : Nat → Lt → Nat
  | 0, l => (l.z.rl 0).length + 1
  | 1, l => (l.z.rl 0).length - (l.i .i64 1000).toNat
  | _, _ => 0
theorem vcallI0_0 : VC TTallI invallI msallI 0 (startF 91 cAllI.pat [.lit true]) wallI0_0 := by
  intro ρ kn hi hp
  have hF : ρ.z.F = lnk.Φ := kn.F
  simp only [h_nil, h_cons, d_le, d_eq, d_not, d_var, d_lit, d_cel, d_leq, d_fn, d_and, d_iff, IE.den, LE.den, AL.den, lenV, true_and, and_true, hF, pb1, pb2, pb4, pb5, pb6] at hp
  refine (show (Sx.allP (pI (ρ.z.rl 0)) (0 : Int).toNat = true) ∧ (((ρ.z.rl 0).length - (0 : Int).toNat : Nat) < (ρ.z.rl 0).length + 1) from ?_)
  exact ⟨rfl, by omega⟩
def ivallI1 (ρ : Rho) : Prop := Sx.allP (pI (ρ.z.rl 0)) (ρ.i .i64 1000).toNat = true
theorem vcallI1_0 : VC TTallI invallI msallI 1 tallI1 wallI1_0 := by
  intro ρ kn hi hp
  have hi : ivallI1 ρ := hi
  unfold ivallI1 at hi
  have hF : ρ.z.F = lnk.Φ := kn.F
  simp only [h_nil, h_cons, d_le, d_eq, d_not, d_var, d_lit, d_cel, d_leq, d_fn, d_and, d_iff, IE.den, LE.den, AL.den, lenV, true_and, and_true, pcallI1_0, hF, pb1, pb2, pb4, pb5, pb6] at hp
  obtain ⟨p1, p2, p3⟩ := hp
  refine all_cons (show (ρ.z.F.b 2 [.lst (ρ.z.rl 0)]) = true from ?_) (all_nil)
  all_goals try simp only [hF, pb1, pb2, pb4, pb5, pb6]
  rw [show (ρ.z.rl 0).length = (ρ.i .i64 1000).toNat by omega]; exact hi
theorem vcallI1_1 : VC TTallI invallI msallI 1 tallI1 wallI1_1 := by
  intro ρ kn hi hp
  have hi : ivallI1 ρ := hi
  unfold ivallI1 at hi
  have hF : ρ.z.F = lnk.Φ := kn.F
  simp only [h_nil, h_cons, d_le, d_eq, d_not, d_var, d_lit, d_cel, d_leq, d_fn, d_and, d_iff, IE.den, LE.den, AL.den, lenV, true_and, and_true, pcallI1_1, pcallI1_0, hF, pb1, pb2, pb4, pb5, pb6] at hp
  obtain ⟨p1, p2, p3, p4⟩ := hp
  refine (show (Sx.allP (pI (ρ.z.rl 0)) ((ρ.i .i64 1000) + (1 : Int)).toNat = true) ∧ (((ρ.z.rl 0).length - ((ρ.i .i64 1000) + (1 : Int)).toNat : Nat) < (ρ.z.rl 0).length - (ρ.i .i64 1000).toNat) from ?_)
  refine ⟨all_s (by omega) hi ?_, by omega⟩
  show inN (Sx.atI (ρ.z.rl 0) (ρ.i .i64 1000).toNat 0) (Sx.atI (ρ.z.rl 0) (ρ.i .i64 1000).toNat 1) = true
  rw [← at_z (by omega), ← at_z (by omega)]; exact p1
theorem vcallI1_2 : VC TTallI invallI msallI 1 tallI1 wallI1_2 := by
  intro ρ kn hi hp
  have hi : ivallI1 ρ := hi
  unfold ivallI1 at hi
  have hF : ρ.z.F = lnk.Φ := kn.F
  simp only [h_nil, h_cons, d_le, d_eq, d_not, d_var, d_lit, d_cel, d_leq, d_fn, d_and, d_iff, IE.den, LE.den, AL.den, lenV, true_and, and_true, pcallI1_1, pcallI1_0, hF, pb1, pb2, pb4, pb5, pb6] at hp
  obtain ⟨p1, p2, p3, p4⟩ := hp
  refine all_cons (show (ρ.z.F.b 2 [.lst (ρ.z.rl 0)]) = false from ?_) (all_nil)
  all_goals try simp only [hF, pb1, pb2, pb4, pb5, pb6]
  refine all_no (i := ρ.i .i64 1000) (by omega) (by omega) fun hh => p1 ?_
  have hh : inN (Sx.atI (ρ.z.rl 0) (ρ.i .i64 1000).toNat 0) (Sx.atI (ρ.z.rl 0) (ρ.i .i64 1000).toNat 1) = true := hh
  rw [← at_z (by omega), ← at_z (by omega)] at hh
  exact hh
theorem vcsallI0 : ∀ v ∈ vwallI 0, VC TTallI invallI msallI 0 (startF 91 cAllI.pat [.lit true]) v := all_cons vcallI0_0 (all_nil)
theorem okallI0 : cfgOk (startF 91 cAllI.pat [.lit true]) = true := by kernel_rfl
theorem sgallI0 : segL cAllI.roms cAllI (seg TTallI selallI 600 tmallI (startF 91 cAllI.pat [.lit true])) = (true, codesR tmallI (views (seg TTallI selallI 600 tmallI (startF 91 cAllI.pat [.lit true]))), vwallI 0) := by kernel_rfl
theorem vcsallI1 : ∀ v ∈ vwallI 1, VC TTallI invallI msallI 1 tallI1 v := all_cons vcallI1_0 (all_cons vcallI1_1 (all_cons vcallI1_2 (all_nil)))
theorem okallI1 : cfgOk tallI1 = true := by kernel_rfl
theorem sgallI1 : segL cAllI.roms cAllI (seg TTallI selallI 600 tmallI tallI1) = (true, codesR tmallI (views (seg TTallI selallI 600 tmallI tallI1)), vwallI 1) := by kernel_rfl
theorem lnallI0 : ∀ ρ, Known TTallI (startF 91 cAllI.pat [.lit true]) ρ → invallI 0 ρ.lt → Holds ρ (leanOf (Cfg.pc (startF 91 cAllI.pat [.lit true]))) := by
  intro ρ _ _
  exact (show Holds ρ [] from fun p hp => by cases hp)
theorem lnallI1 : ∀ ρ, Known TTallI tallI1 ρ → invallI 1 ρ.lt → Holds ρ (leanOf (Cfg.pc tallI1)) := by
  intro ρ _ _
  exact (show Holds ρ [] from fun p hp => by cases hp)
theorem told_allI : Sx.Told lnk.Φ cAllI := by
  refine told_of (cs := [cIn]) (all_cons told_inn (all_nil)) (sel := selallI) 600 tmallI invallI msallI vwallI 0 (pc0 := [.lit true]) (by kernel_rfl) (by kernel_rfl) (by kernel_rfl) (post_nil rfl) ?_ ?_ ?_ rfl (fun ρ _ _ => by simp [Holds, BE.den]) (fun _ _ _ _ => trivial) ?_
  · intro k C h
    have := lk_mem h
    simp only [tmallI, List.mem_cons, Prod.mk.injEq, List.not_mem_nil, or_false] at this
    rcases this with ⟨rfl, rfl⟩ | ⟨rfl, rfl⟩
    · exact okallI0
    · exact okallI1
  · intro k C h
    have := lk_mem h
    simp only [tmallI, List.mem_cons, Prod.mk.injEq, List.not_mem_nil, or_false] at this
    rcases this with ⟨rfl, rfl⟩ | ⟨rfl, rfl⟩
    · exact sgallI0
    · exact sgallI1
  · intro k C h
    have := lk_mem h
    simp only [tmallI, List.mem_cons, Prod.mk.injEq, List.not_mem_nil, or_false] at this
    rcases this with ⟨rfl, rfl⟩ | ⟨rfl, rfl⟩
    · exact vcsallI0
    · exact vcsallI1
  · intro k C h
    have := lk_mem h
    simp only [tmallI, List.mem_cons, Prod.mk.injEq, List.not_mem_nil, or_false] at this
    rcases this with ⟨rfl, rfl⟩ | ⟨rfl, rfl⟩
    · exact lnallI0
    · exact lnallI1
theorem told_right : Sx.Told lnk.Φ cRight := told_auto (cs := [cAllO, cAllI]) (all_cons told_allO (all_cons told_allI (all_nil))) 4000 (by kernel_rfl) (by kernel_rfl) (by kernel_rfl) (post_nil rfl) (by kernel_rfl) (by kernel_rfl)
end Go.Proofs.Ytjgkaimgocnkmaa.lnk
