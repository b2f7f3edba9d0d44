/- Layer hold: modes, as the program counts them. No condition. -/
import Derived.Test.YteblnjgghbclpaaDoorHc
set_option linter.unusedVariables false
set_option linter.unusedSimpArgs false
set_option linter.deprecated false
namespace Go.Proofs.YteblnjgghbclpaaDoor.hold
open Go Go.Proofs.YteblnjgghbclpaaDoor.Sx
noncomputable section
abbrev TTmodesF : Tab := T hold.Φ cModesF.roms []
def tmodesF1 : Cfg := { top := ⟨108, over (opqS 10000 21) [(0, (SV.bool (BE.var 1000))), (1, (SV.func (Go.Fn.func 109) [] [])), (9, (SV.rom 0 (IE.lit 0) (IE.len (LE.rom 0)) none)), (10, (SV.int .i64 (IE.len (LE.rom 0)))), (11, (SV.int .i64 (IE.var .i64 1001)))], ogt (loopTodo (bodyOf (T hold.Φ [] []) 108) 0), [], false, none⟩, rest := [], heap := [], next := 1, pc := .lit true :: ([] ++ [(BE.le (IE.lit 0) (IE.var .i64 1001)), (BE.le (IE.var .i64 1001) (IE.len (LE.rom 0)))]) }
def tmmodesF : List (Nat × Cfg) := [(0, startF 108 cModesF.pat [.lit true]), (1, tmodesF1)]
def selmodesF : Sel := [(108, 1, 0, 1)]
def wmodesF0_0 : VW := (VW.cut 1 [(BE.lit true)] (Sx.Sub.mk [(.i64, (1001, (IE.lit 0)))] [(1000, (BE.var 1))] [] [] [] []))
def vwmodesF0 : List VW := [wmodesF0_0]
def pcmodesF1_0 : List BE := [(BE.lit true), (BE.le (IE.lit 0) (IE.var .i64 1001)), (BE.le (IE.var .i64 1001) (IE.len (LE.rom 0)))]
def pcmodesF1_1 : List BE := ((BE.not (BE.le (IE.len (LE.rom 0)) (IE.var .i64 1001))) :: pcmodesF1_0)
def pcmodesF1_2 : List BE := ((BE.var 1000) :: pcmodesF1_1)
def wmodesF1_0 : VW := (VW.done ((BE.le (IE.len (LE.rom 0)) (IE.var .i64 1001)) :: pcmodesF1_0) (some [(G.b (BE.and (BE.var 1) (BE.fn 6 (AL.lst (LE.rom 0) AL.nil))) (BE.var 1000))]))
def wmodesF1_1 : VW := (VW.cut 1 ((BE.le (IE.lit 0) (IE.cel .i64 (LE.rom 0) (IE.var .i64 1001) 0)) :: pcmodesF1_2) (Sx.Sub.mk [(.i64, (1001, (IE.add (IE.var .i64 1001) (IE.lit 1))))] [(1000, (BE.not (BE.le (IE.lit 6) (IE.cel .i64 (LE.rom 0) (IE.var .i64 1001) 0))))] [] [] [] []))
def wmodesF1_2 : VW := (VW.cut 1 ((BE.not (BE.le (IE.lit 0) (IE.cel .i64 (LE.rom 0) (IE.var .i64 1001) 0))) :: pcmodesF1_2) (Sx.Sub.mk [(.i64, (1001, (IE.add (IE.var .i64 1001) (IE.lit 1))))] [(1000, (BE.lit false))] [] [] [] []))
def wmodesF1_3 : VW := (VW.cut 1 ((BE.not (BE.var 1000)) :: pcmodesF1_1) (Sx.Sub.mk [(.i64, (1001, (IE.add (IE.var .i64 1001) (IE.lit 1))))] [(1000, (BE.lit false))] [] [] [] []))
def vwmodesF1 : List VW := [wmodesF1_0, wmodesF1_1, wmodesF1_2, wmodesF1_3]
def vwmodesF : Nat → List VW
  | 0 => vwmodesF0
  | 1 => vwmodesF1
  | _ => []
end
def invmodesF : Nat → Lt → Prop
  | 1, l => (l.b 1000) = ((l.b 1) && modesN (l.z.rl 0) (l.i .i64 1001).toNat)
  | _, _ => True
def msmodesF : Nat → Lt → Nat
  | 0, l => (l.z.rl 0).length + 1
  | 1, l => (l.z.rl 0).length - (l.i .i64 1001).toNat
  | _, _ => 0
theorem vcmodesF0_0 : VC TTmodesF invmodesF msmodesF 0 (startF 108 cModesF.pat [.lit true]) wmodesF0_0 := by
  intro ρ kn hi hp
  have hF : ρ.z.F = hold.Φ := kn.F
  simp only [h_nil, h_cons, d_le, d_eq, d_not, d_var, d_lit, d_cel, d_leq, d_fn, d_and, d_iff, IE.den, LE.den, AL.den, lenV, true_and, and_true, hF, pi1, pb1, pb2, pb3, pb4, pb5, pb6] at hp
  refine (show ((ρ.b 1) = ((ρ.b 1) && modesN (ρ.z.rl 0) (0 : Int).toNat)) ∧ (((ρ.z.rl 0).length - (0 : Int).toNat : Nat) < (ρ.z.rl 0).length + 1) from ?_)
  exact ⟨by simp [modesN], by omega⟩
def ivmodesF1 (ρ : Rho) : Prop := (ρ.b 1000) = ((ρ.b 1) && modesN (ρ.z.rl 0) (ρ.i .i64 1001).toNat)
theorem vcmodesF1_0 : VC TTmodesF invmodesF msmodesF 1 tmodesF1 wmodesF1_0 := by
  intro ρ kn hi hp
  have hi : ivmodesF1 ρ := hi
  unfold ivmodesF1 at hi
  have hF : ρ.z.F = hold.Φ := kn.F
  simp only [h_nil, h_cons, d_le, d_eq, d_not, d_var, d_lit, d_cel, d_leq, d_fn, d_and, d_iff, IE.den, LE.den, AL.den, lenV, true_and, and_true, pcmodesF1_0, hF, pi1, pb1, pb2, pb3, pb4, pb5, pb6] at hp
  obtain ⟨p1, p2, p3⟩ := hp
  refine all_cons (show ((ρ.b 1) && (ρ.z.F.b 6 [.lst (ρ.z.rl 0)])) = (ρ.b 1000) from ?_) (all_nil)
  all_goals try simp only [hF, pi1, pb1, pb2, pb3, pb4, pb5, pb6]
  rw [hi, show (ρ.z.rl 0).length = (ρ.i .i64 1001).toNat by omega]
theorem vcmodesF1_1 : VC TTmodesF invmodesF msmodesF 1 tmodesF1 wmodesF1_1 := by
  intro ρ kn hi hp
  have hi : ivmodesF1 ρ := hi
  unfold ivmodesF1 at hi
  have hF : ρ.z.F = hold.Φ := kn.F
  simp only [h_nil, h_cons, d_le, d_eq, d_not, d_var, d_lit, d_cel, d_leq, d_fn, d_and, d_iff, IE.den, LE.den, AL.den, lenV, true_and, and_true, pcmodesF1_2, pcmodesF1_1, pcmodesF1_0, hF, pi1, pb1, pb2, pb3, pb4, pb5, pb6] at hp
  obtain ⟨p1, p2, p3, p4, p5⟩ := hp
  refine (show ((!(decide ((6 : Int) ≤ (clampK .i64 (intV (celV (ρ.z.rl 0) (ρ.i .i64 1001) 0)))))) = ((ρ.b 1) && modesN (ρ.z.rl 0) ((ρ.i .i64 1001) + (1 : Int)).toNat)) ∧ (((ρ.z.rl 0).length - ((ρ.i .i64 1001) + (1 : Int)).toNat : Nat) < (ρ.z.rl 0).length - (ρ.i .i64 1001).toNat) from ?_)
  refine ⟨?_, by omega⟩
  rw [at_s (by omega), modesN, ← Bool.and_assoc, ← hi, show ρ.b 1000 = true by assumption, Bool.true_and, ← at_z (by omega)]
  apply beq_of
  simp only [Bool.not_eq_true', decide_eq_false_iff_not, decide_eq_true_eq]
  omega
theorem vcmodesF1_2 : VC TTmodesF invmodesF msmodesF 1 tmodesF1 wmodesF1_2 := by
  intro ρ kn hi hp
  have hi : ivmodesF1 ρ := hi
  unfold ivmodesF1 at hi
  have hF : ρ.z.F = hold.Φ := kn.F
  simp only [h_nil, h_cons, d_le, d_eq, d_not, d_var, d_lit, d_cel, d_leq, d_fn, d_and, d_iff, IE.den, LE.den, AL.den, lenV, true_and, and_true, pcmodesF1_2, pcmodesF1_1, pcmodesF1_0, hF, pi1, pb1, pb2, pb3, pb4, pb5, pb6] at hp
  obtain ⟨p1, p2, p3, p4, p5⟩ := hp
  refine (show (false = ((ρ.b 1) && modesN (ρ.z.rl 0) ((ρ.i .i64 1001) + (1 : Int)).toNat)) ∧ (((ρ.z.rl 0).length - ((ρ.i .i64 1001) + (1 : Int)).toNat : Nat) < (ρ.z.rl 0).length - (ρ.i .i64 1001).toNat) from ?_)
  refine ⟨?_, by omega⟩
  rw [at_s (by omega), modesN, ← Bool.and_assoc, ← hi, show ρ.b 1000 = true by assumption, Bool.true_and, ← at_z (by omega)]
  apply beq_of
  simp only [Bool.false_eq_true, decide_eq_true_eq, false_iff]
  omega
theorem vcmodesF1_3 : VC TTmodesF invmodesF msmodesF 1 tmodesF1 wmodesF1_3 := by
  intro ρ kn hi hp
  have hi : ivmodesF1 ρ := hi
  unfold ivmodesF1 at hi
  have hF : ρ.z.F = hold.Φ := kn.F
  simp only [h_nil, h_cons, d_le, d_eq, d_not, d_var, d_lit, d_cel, d_leq, d_fn, d_and, d_iff, IE.den, LE.den, AL.den, lenV, true_and, and_true, pcmodesF1_1, pcmodesF1_0, hF, pi1, pb1, pb2, pb3, pb4, pb5, pb6] at hp
  obtain ⟨p1, p2, p3, p4⟩ := hp
  refine (show (false = ((ρ.b 1) && modesN (ρ.z.rl 0) ((ρ.i .i64 1001) + (1 : Int)).toNat)) ∧ (((ρ.z.rl 0).length - ((ρ.i .i64 1001) + (1 : Int)).toNat : Nat) < (ρ.z.rl 0).length - (ρ.i .i64 1001).toNat) from ?_)
  refine ⟨?_, by omega⟩
  rw [at_s (by omega), modesN, ← Bool.and_assoc, ← hi, Bool.eq_false_iff.2 (by assumption : ¬ ρ.b 1000 = true), Bool.false_and]
theorem vcsmodesF0 : ∀ v ∈ vwmodesF 0, VC TTmodesF invmodesF msmodesF 0 (startF 108 cModesF.pat [.lit true]) v := all_cons vcmodesF0_0 (all_nil)
theorem okmodesF0 : cfgOk (startF 108 cModesF.pat [.lit true]) = true := by kernel_rfl
theorem sgmodesF0 : segL cModesF.roms cModesF (seg TTmodesF selmodesF 400 tmmodesF (startF 108 cModesF.pat [.lit true])) = (true, codesR tmmodesF (views (seg TTmodesF selmodesF 400 tmmodesF (startF 108 cModesF.pat [.lit true]))), vwmodesF 0) := by kernel_rfl
theorem vcsmodesF1 : ∀ v ∈ vwmodesF 1, VC TTmodesF invmodesF msmodesF 1 tmodesF1 v := all_cons vcmodesF1_0 (all_cons vcmodesF1_1 (all_cons vcmodesF1_2 (all_cons vcmodesF1_3 (all_nil))))
theorem okmodesF1 : cfgOk tmodesF1 = true := by kernel_rfl
theorem sgmodesF1 : segL cModesF.roms cModesF (seg TTmodesF selmodesF 400 tmmodesF tmodesF1) = (true, codesR tmmodesF (views (seg TTmodesF selmodesF 400 tmmodesF tmodesF1)), vwmodesF 1) := by kernel_rfl
theorem lnmodesF0 : ∀ ρ, Known TTmodesF (startF 108 cModesF.pat [.lit true]) ρ → invmodesF 0 ρ.lt → Holds ρ (leanOf (Cfg.pc (startF 108 cModesF.pat [.lit true]))) := by
  intro ρ _ _
  exact (show Holds ρ [] from fun p hp => by cases hp)
theorem lnmodesF1 : ∀ ρ, Known TTmodesF tmodesF1 ρ → invmodesF 1 ρ.lt → Holds ρ (leanOf (Cfg.pc tmodesF1)) := by
  intro ρ _ _
  exact (show Holds ρ [] from fun p hp => by cases hp)
theorem told_modesF : Sx.Told hold.Φ cModesF := by
  refine told_of (cs := []) (all_nil) (sel := selmodesF) 400 tmmodesF invmodesF msmodesF vwmodesF 0 (pc0 := [.lit true]) (by kernel_rfl) (by kernel_rfl) (by kernel_rfl) (post_nil rfl) ?_ ?_ ?_ rfl (fun ρ _ _ => by simp [Holds, BE.den]) (fun _ _ _ _ => trivial) ?_
  · intro k C h
    have := lk_mem h
    simp only [tmmodesF, List.mem_cons, Prod.mk.injEq, List.not_mem_nil, or_false] at this
    rcases this with ⟨rfl, rfl⟩ | ⟨rfl, rfl⟩
    · exact okmodesF0
    · exact okmodesF1
  · intro k C h
    have := lk_mem h
    simp only [tmmodesF, List.mem_cons, Prod.mk.injEq, List.not_mem_nil, or_false] at this
    rcases this with ⟨rfl, rfl⟩ | ⟨rfl, rfl⟩
    · exact sgmodesF0
    · exact sgmodesF1
  · intro k C h
    have := lk_mem h
    simp only [tmmodesF, List.mem_cons, Prod.mk.injEq, List.not_mem_nil, or_false] at this
    rcases this with ⟨rfl, rfl⟩ | ⟨rfl, rfl⟩
    · exact vcsmodesF0
    · exact vcsmodesF1
  · intro k C h
    have := lk_mem h
    simp only [tmmodesF, List.mem_cons, Prod.mk.injEq, List.not_mem_nil, or_false] at this
    rcases this with ⟨rfl, rfl⟩ | ⟨rfl, rfl⟩
    · exact lnmodesF0
    · exact lnmodesF1
theorem told_modesR : Sx.Told hold.Φ cModesR := told_auto (cs := [cModesF]) (all_cons told_modesF (all_nil)) 4000 (by kernel_rfl) (by kernel_rfl) (by kernel_rfl) (post_nil rfl) (by kernel_rfl) (by kernel_rfl)
noncomputable section
abbrev TTcnt : Tab := T hold.Φ cCnt.roms []
def tcnt1 : Cfg := { top := ⟨114, over (opqS 10000 21) [(1, (SV.func (Go.Fn.func 115) [] [])), (3, (SV.ptr 0 0)), (6, (SV.ptr 1 0)), (9, (SV.rom 0 (IE.lit 0) (IE.len (LE.rom 0)) none)), (10, (SV.int .i64 (IE.len (LE.rom 0)))), (11, (SV.int .i64 (IE.var .i64 1000)))], ogt (atTodo (bodyOf (T hold.Φ [] []) 114) 3), [], false, none⟩, rest := [], heap := [(0, .cells [(SV.int .i64 (IE.var .i64 1001)), (SV.int .i64 (IE.var .i64 1002)), (SV.int .i64 (IE.var .i64 1003)), (SV.int .i64 (IE.var .i64 1004)), (SV.int .i64 (IE.var .i64 1005)), (SV.int .i64 (IE.var .i64 1006))] 159), (1, .cells [(SV.int .i64 (IE.lit 0)), (SV.int .i64 (IE.lit 0)), (SV.int .i64 (IE.lit 0)), (SV.int .i64 (IE.lit 0)), (SV.int .i64 (IE.lit 0)), (SV.int .i64 (IE.lit 0))] 159)], next := 2, pc := .lit true :: ([] ++ [(BE.le (IE.len (LE.rom 0)) (IE.lit 1000000)), (BE.fn 6 (AL.lst (LE.rom 0) AL.nil)), (BE.not (BE.le (IE.len (LE.rom 0)) (IE.lit 0))), (BE.le (IE.lit 0) (IE.var .i64 1000)), (BE.not (BE.le (IE.len (LE.rom 0)) (IE.var .i64 1000)))] ++ (.and (.lit true) (.lit true)) :: [.le (.lit 0) (.cel .i64 (.rom 0) (.var .i64 1000) 0), .le (.cel .i64 (.rom 0) (.var .i64 1000) 0) (.lit 5)]) }
def tmcnt : List (Nat × Cfg) := [(0, startF 114 cCnt.pat (.lit true :: cCnt.pre)), (1, tcnt1)]
def selcnt : Sel := [(114, 1003, 0, 1)]
def pccnt0_0 : List BE := [(BE.lit true), (BE.fn 6 (AL.lst (LE.rom 0) AL.nil)), (BE.le (IE.len (LE.rom 0)) (IE.lit 1000000))]
def wcnt0_0 : VW := (VW.done ((BE.le (IE.len (LE.rom 0)) (IE.lit 0)) :: pccnt0_0) (some [(G.i (IE.fn .i64 1 (AL.lst (LE.rom 0) (AL.int .i64 (IE.lit 0) AL.nil))) (IE.lit 0)), (G.i (IE.fn .i64 1 (AL.lst (LE.rom 0) (AL.int .i64 (IE.lit 1) AL.nil))) (IE.lit 0)), (G.i (IE.fn .i64 1 (AL.lst (LE.rom 0) (AL.int .i64 (IE.lit 2) AL.nil))) (IE.lit 0)), (G.i (IE.fn .i64 1 (AL.lst (LE.rom 0) (AL.int .i64 (IE.lit 3) AL.nil))) (IE.lit 0)), (G.i (IE.fn .i64 1 (AL.lst (LE.rom 0) (AL.int .i64 (IE.lit 4) AL.nil))) (IE.lit 0)), (G.i (IE.fn .i64 1 (AL.lst (LE.rom 0) (AL.int .i64 (IE.lit 5) AL.nil))) (IE.lit 0))]))
def wcnt0_1 : VW := (VW.cut 1 ((BE.not (BE.le (IE.len (LE.rom 0)) (IE.lit 0))) :: pccnt0_0) (Sx.Sub.mk [(.i64, (1006, (IE.lit 0))), (.i64, (1005, (IE.lit 0))), (.i64, (1004, (IE.lit 0))), (.i64, (1003, (IE.lit 0))), (.i64, (1002, (IE.lit 0))), (.i64, (1001, (IE.lit 0))), (.i64, (1000, (IE.lit 0)))] [] [] [] [] []))
def vwcnt0 : List VW := [wcnt0_0, wcnt0_1]
def pccnt1_0 : List BE := [(BE.lit true), (BE.le (IE.len (LE.rom 0)) (IE.lit 1000000)), (BE.fn 6 (AL.lst (LE.rom 0) AL.nil)), (BE.not (BE.le (IE.len (LE.rom 0)) (IE.lit 0))), (BE.le (IE.lit 0) (IE.var .i64 1000)), (BE.not (BE.le (IE.len (LE.rom 0)) (IE.var .i64 1000))), (BE.and (BE.lit true) (BE.lit true)), (BE.le (IE.lit 0) (IE.cel .i64 (LE.rom 0) (IE.var .i64 1000) 0)), (BE.le (IE.cel .i64 (LE.rom 0) (IE.var .i64 1000) 0) (IE.lit 5))]
def pccnt1_1 : List BE := ((BE.le (IE.cel .i64 (LE.rom 0) (IE.var .i64 1000) 0) (IE.lit 0)) :: pccnt1_0)
def pccnt1_2 : List BE := ((BE.not (BE.le (IE.cel .i64 (LE.rom 0) (IE.var .i64 1000) 0) (IE.lit 0))) :: pccnt1_0)
def pccnt1_3 : List BE := ((BE.le (IE.cel .i64 (LE.rom 0) (IE.var .i64 1000) 0) (IE.lit 1)) :: pccnt1_2)
def pccnt1_4 : List BE := ((BE.not (BE.le (IE.cel .i64 (LE.rom 0) (IE.var .i64 1000) 0) (IE.lit 1))) :: pccnt1_2)
def pccnt1_5 : List BE := ((BE.le (IE.cel .i64 (LE.rom 0) (IE.var .i64 1000) 0) (IE.lit 2)) :: pccnt1_4)
def pccnt1_6 : List BE := ((BE.not (BE.le (IE.cel .i64 (LE.rom 0) (IE.var .i64 1000) 0) (IE.lit 2))) :: pccnt1_4)
def pccnt1_7 : List BE := ((BE.le (IE.cel .i64 (LE.rom 0) (IE.var .i64 1000) 0) (IE.lit 3)) :: pccnt1_6)
def pccnt1_8 : List BE := ((BE.not (BE.le (IE.cel .i64 (LE.rom 0) (IE.var .i64 1000) 0) (IE.lit 3))) :: pccnt1_6)
def pccnt1_9 : List BE := ((BE.le (IE.cel .i64 (LE.rom 0) (IE.var .i64 1000) 0) (IE.lit 4)) :: pccnt1_8)
def pccnt1_10 : List BE := ((BE.not (BE.le (IE.cel .i64 (LE.rom 0) (IE.var .i64 1000) 0) (IE.lit 4))) :: pccnt1_8)
def wcnt1_0 : VW := (VW.done ((BE.le (IE.len (LE.rom 0)) (IE.add (IE.var .i64 1000) (IE.lit 1))) :: pccnt1_1) (some [(G.i (IE.fn .i64 1 (AL.lst (LE.rom 0) (AL.int .i64 (IE.lit 0) AL.nil))) (IE.wrap .i64 (IE.add (IE.var .i64 1001) (IE.lit 1)))), (G.i (IE.fn .i64 1 (AL.lst (LE.rom 0) (AL.int .i64 (IE.lit 1) AL.nil))) (IE.var .i64 1002)), (G.i (IE.fn .i64 1 (AL.lst (LE.rom 0) (AL.int .i64 (IE.lit 2) AL.nil))) (IE.var .i64 1003)), (G.i (IE.fn .i64 1 (AL.lst (LE.rom 0) (AL.int .i64 (IE.lit 3) AL.nil))) (IE.var .i64 1004)), (G.i (IE.fn .i64 1 (AL.lst (LE.rom 0) (AL.int .i64 (IE.lit 4) AL.nil))) (IE.var .i64 1005)), (G.i (IE.fn .i64 1 (AL.lst (LE.rom 0) (AL.int .i64 (IE.lit 5) AL.nil))) (IE.var .i64 1006))]))
def wcnt1_1 : VW := (VW.cut 1 ((BE.not (BE.le (IE.len (LE.rom 0)) (IE.add (IE.var .i64 1000) (IE.lit 1)))) :: pccnt1_1) (Sx.Sub.mk [(.i64, (1006, (IE.var .i64 1006))), (.i64, (1005, (IE.var .i64 1005))), (.i64, (1004, (IE.var .i64 1004))), (.i64, (1003, (IE.var .i64 1003))), (.i64, (1002, (IE.var .i64 1002))), (.i64, (1001, (IE.wrap .i64 (IE.add (IE.var .i64 1001) (IE.lit 1))))), (.i64, (1000, (IE.add (IE.var .i64 1000) (IE.lit 1))))] [] [] [] [] []))
def wcnt1_2 : VW := (VW.done ((BE.le (IE.len (LE.rom 0)) (IE.add (IE.var .i64 1000) (IE.lit 1))) :: pccnt1_3) (some [(G.i (IE.fn .i64 1 (AL.lst (LE.rom 0) (AL.int .i64 (IE.lit 0) AL.nil))) (IE.var .i64 1001)), (G.i (IE.fn .i64 1 (AL.lst (LE.rom 0) (AL.int .i64 (IE.lit 1) AL.nil))) (IE.wrap .i64 (IE.add (IE.var .i64 1002) (IE.lit 1)))), (G.i (IE.fn .i64 1 (AL.lst (LE.rom 0) (AL.int .i64 (IE.lit 2) AL.nil))) (IE.var .i64 1003)), (G.i (IE.fn .i64 1 (AL.lst (LE.rom 0) (AL.int .i64 (IE.lit 3) AL.nil))) (IE.var .i64 1004)), (G.i (IE.fn .i64 1 (AL.lst (LE.rom 0) (AL.int .i64 (IE.lit 4) AL.nil))) (IE.var .i64 1005)), (G.i (IE.fn .i64 1 (AL.lst (LE.rom 0) (AL.int .i64 (IE.lit 5) AL.nil))) (IE.var .i64 1006))]))
def wcnt1_3 : VW := (VW.cut 1 ((BE.not (BE.le (IE.len (LE.rom 0)) (IE.add (IE.var .i64 1000) (IE.lit 1)))) :: pccnt1_3) (Sx.Sub.mk [(.i64, (1006, (IE.var .i64 1006))), (.i64, (1005, (IE.var .i64 1005))), (.i64, (1004, (IE.var .i64 1004))), (.i64, (1003, (IE.var .i64 1003))), (.i64, (1002, (IE.wrap .i64 (IE.add (IE.var .i64 1002) (IE.lit 1))))), (.i64, (1001, (IE.var .i64 1001))), (.i64, (1000, (IE.add (IE.var .i64 1000) (IE.lit 1))))] [] [] [] [] []))
def wcnt1_4 : VW := (VW.done ((BE.le (IE.len (LE.rom 0)) (IE.add (IE.var .i64 1000) (IE.lit 1))) :: pccnt1_5) (some [(G.i (IE.fn .i64 1 (AL.lst (LE.rom 0) (AL.int .i64 (IE.lit 0) AL.nil))) (IE.var .i64 1001)), (G.i (IE.fn .i64 1 (AL.lst (LE.rom 0) (AL.int .i64 (IE.lit 1) AL.nil))) (IE.var .i64 1002)), (G.i (IE.fn .i64 1 (AL.lst (LE.rom 0) (AL.int .i64 (IE.lit 2) AL.nil))) (IE.wrap .i64 (IE.add (IE.var .i64 1003) (IE.lit 1)))), (G.i (IE.fn .i64 1 (AL.lst (LE.rom 0) (AL.int .i64 (IE.lit 3) AL.nil))) (IE.var .i64 1004)), (G.i (IE.fn .i64 1 (AL.lst (LE.rom 0) (AL.int .i64 (IE.lit 4) AL.nil))) (IE.var .i64 1005)), (G.i (IE.fn .i64 1 (AL.lst (LE.rom 0) (AL.int .i64 (IE.lit 5) AL.nil))) (IE.var .i64 1006))]))
def wcnt1_5 : VW := (VW.cut 1 ((BE.not (BE.le (IE.len (LE.rom 0)) (IE.add (IE.var .i64 1000) (IE.lit 1)))) :: pccnt1_5) (Sx.Sub.mk [(.i64, (1006, (IE.var .i64 1006))), (.i64, (1005, (IE.var .i64 1005))), (.i64, (1004, (IE.var .i64 1004))), (.i64, (1003, (IE.wrap .i64 (IE.add (IE.var .i64 1003) (IE.lit 1))))), (.i64, (1002, (IE.var .i64 1002))), (.i64, (1001, (IE.var .i64 1001))), (.i64, (1000, (IE.add (IE.var .i64 1000) (IE.lit 1))))] [] [] [] [] []))
def wcnt1_6 : VW := (VW.done ((BE.le (IE.len (LE.rom 0)) (IE.add (IE.var .i64 1000) (IE.lit 1))) :: pccnt1_7) (some [(G.i (IE.fn .i64 1 (AL.lst (LE.rom 0) (AL.int .i64 (IE.lit 0) AL.nil))) (IE.var .i64 1001)), (G.i (IE.fn .i64 1 (AL.lst (LE.rom 0) (AL.int .i64 (IE.lit 1) AL.nil))) (IE.var .i64 1002)), (G.i (IE.fn .i64 1 (AL.lst (LE.rom 0) (AL.int .i64 (IE.lit 2) AL.nil))) (IE.var .i64 1003)), (G.i (IE.fn .i64 1 (AL.lst (LE.rom 0) (AL.int .i64 (IE.lit 3) AL.nil))) (IE.wrap .i64 (IE.add (IE.var .i64 1004) (IE.lit 1)))), (G.i (IE.fn .i64 1 (AL.lst (LE.rom 0) (AL.int .i64 (IE.lit 4) AL.nil))) (IE.var .i64 1005)), (G.i (IE.fn .i64 1 (AL.lst (LE.rom 0) (AL.int .i64 (IE.lit 5) AL.nil))) (IE.var .i64 1006))]))
def wcnt1_7 : VW := (VW.cut 1 ((BE.not (BE.le (IE.len (LE.rom 0)) (IE.add (IE.var .i64 1000) (IE.lit 1)))) :: pccnt1_7) (Sx.Sub.mk [(.i64, (1006, (IE.var .i64 1006))), (.i64, (1005, (IE.var .i64 1005))), (.i64, (1004, (IE.wrap .i64 (IE.add (IE.var .i64 1004) (IE.lit 1))))), (.i64, (1003, (IE.var .i64 1003))), (.i64, (1002, (IE.var .i64 1002))), (.i64, (1001, (IE.var .i64 1001))), (.i64, (1000, (IE.add (IE.var .i64 1000) (IE.lit 1))))] [] [] [] [] []))
def wcnt1_8 : VW := (VW.done ((BE.le (IE.len (LE.rom 0)) (IE.add (IE.var .i64 1000) (IE.lit 1))) :: pccnt1_9) (some [(G.i (IE.fn .i64 1 (AL.lst (LE.rom 0) (AL.int .i64 (IE.lit 0) AL.nil))) (IE.var .i64 1001)), (G.i (IE.fn .i64 1 (AL.lst (LE.rom 0) (AL.int .i64 (IE.lit 1) AL.nil))) (IE.var .i64 1002)), (G.i (IE.fn .i64 1 (AL.lst (LE.rom 0) (AL.int .i64 (IE.lit 2) AL.nil))) (IE.var .i64 1003)), (G.i (IE.fn .i64 1 (AL.lst (LE.rom 0) (AL.int .i64 (IE.lit 3) AL.nil))) (IE.var .i64 1004)), (G.i (IE.fn .i64 1 (AL.lst (LE.rom 0) (AL.int .i64 (IE.lit 4) AL.nil))) (IE.wrap .i64 (IE.add (IE.var .i64 1005) (IE.lit 1)))), (G.i (IE.fn .i64 1 (AL.lst (LE.rom 0) (AL.int .i64 (IE.lit 5) AL.nil))) (IE.var .i64 1006))]))
def wcnt1_9 : VW := (VW.cut 1 ((BE.not (BE.le (IE.len (LE.rom 0)) (IE.add (IE.var .i64 1000) (IE.lit 1)))) :: pccnt1_9) (Sx.Sub.mk [(.i64, (1006, (IE.var .i64 1006))), (.i64, (1005, (IE.wrap .i64 (IE.add (IE.var .i64 1005) (IE.lit 1))))), (.i64, (1004, (IE.var .i64 1004))), (.i64, (1003, (IE.var .i64 1003))), (.i64, (1002, (IE.var .i64 1002))), (.i64, (1001, (IE.var .i64 1001))), (.i64, (1000, (IE.add (IE.var .i64 1000) (IE.lit 1))))] [] [] [] [] []))
def wcnt1_10 : VW := (VW.done ((BE.le (IE.len (LE.rom 0)) (IE.add (IE.var .i64 1000) (IE.lit 1))) :: pccnt1_10) (some [(G.i (IE.fn .i64 1 (AL.lst (LE.rom 0) (AL.int .i64 (IE.lit 0) AL.nil))) (IE.var .i64 1001)), (G.i (IE.fn .i64 1 (AL.lst (LE.rom 0) (AL.int .i64 (IE.lit 1) AL.nil))) (IE.var .i64 1002)), (G.i (IE.fn .i64 1 (AL.lst (LE.rom 0) (AL.int .i64 (IE.lit 2) AL.nil))) (IE.var .i64 1003)), (G.i (IE.fn .i64 1 (AL.lst (LE.rom 0) (AL.int .i64 (IE.lit 3) AL.nil))) (IE.var .i64 1004)), (G.i (IE.fn .i64 1 (AL.lst (LE.rom 0) (AL.int .i64 (IE.lit 4) AL.nil))) (IE.var .i64 1005)), (G.i (IE.fn .i64 1 (AL.lst (LE.rom 0) (AL.int .i64 (IE.lit 5) AL.nil))) (IE.wrap .i64 (IE.add (IE.var .i64 1006) (IE.lit 1))))]))
def wcnt1_11 : VW := (VW.cut 1 ((BE.not (BE.le (IE.len (LE.rom 0)) (IE.add (IE.var .i64 1000) (IE.lit 1)))) :: pccnt1_10) (Sx.Sub.mk [(.i64, (1006, (IE.wrap .i64 (IE.add (IE.var .i64 1006) (IE.lit 1))))), (.i64, (1005, (IE.var .i64 1005))), (.i64, (1004, (IE.var .i64 1004))), (.i64, (1003, (IE.var .i64 1003))), (.i64, (1002, (IE.var .i64 1002))), (.i64, (1001, (IE.var .i64 1001))), (.i64, (1000, (IE.add (IE.var .i64 1000) (IE.lit 1))))] [] [] [] [] []))
def vwcnt1 : List VW := [wcnt1_0, wcnt1_1, wcnt1_2, wcnt1_3, wcnt1_4, wcnt1_5, wcnt1_6, wcnt1_7, wcnt1_8, wcnt1_9, wcnt1_10, wcnt1_11]
def vwcnt : Nat → List VW
  | 0 => vwcnt0
  | 1 => vwcnt1
  | _ => []
end
def invcnt : Nat → Lt → Prop
  | 1, l => (l.i .i64 1001) = (cntN (l.z.rl 0) 0 (l.i .i64 1000).toNat : Int) ∧ (l.i .i64 1002) = (cntN (l.z.rl 0) 1 (l.i .i64 1000).toNat : Int) ∧ (l.i .i64 1003) = (cntN (l.z.rl 0) 2 (l.i .i64 1000).toNat : Int) ∧ (l.i .i64 1004) = (cntN (l.z.rl 0) 3 (l.i .i64 1000).toNat : Int) ∧ (l.i .i64 1005) = (cntN (l.z.rl 0) 4 (l.i .i64 1000).toNat : Int) ∧ (l.i .i64 1006) = (cntN (l.z.rl 0) 5 (l.i .i64 1000).toNat : Int) ∧ modesN (l.z.rl 0) (l.z.rl 0).length = true ∧ 0 ≤ (l.i .i64 1000) ∧ (l.i .i64 1000) < ((l.z.rl 0).length : Int)
  | _, _ => True
def mscnt : Nat → Lt → Nat
  | 0, l => (l.z.rl 0).length + 1
  | 1, l => (l.z.rl 0).length - (l.i .i64 1000).toNat
  | _, _ => 0
theorem vccnt0_0 : VC TTcnt invcnt mscnt 0 (startF 114 cCnt.pat (.lit true :: cCnt.pre)) wcnt0_0 := by
  intro ρ kn hi hp
  have hF : ρ.z.F = hold.Φ := kn.F
  simp only [h_nil, h_cons, d_le, d_eq, d_not, d_var, d_lit, d_cel, d_leq, d_fn, d_and, d_iff, IE.den, LE.den, AL.den, lenV, true_and, and_true, pccnt0_0, hF, pi1, pb1, pb2, pb3, pb4, pb5, pb6] at hp
  obtain ⟨p1, p2, p3⟩ := hp
  refine all_cons (show (clampK .i64 (ρ.z.F.i 1 [.lst (ρ.z.rl 0), .int .i64 (0 : Int)])) = (0 : Int) from ?_) (all_cons (show (clampK .i64 (ρ.z.F.i 1 [.lst (ρ.z.rl 0), .int .i64 (1 : Int)])) = (0 : Int) from ?_) (all_cons (show (clampK .i64 (ρ.z.F.i 1 [.lst (ρ.z.rl 0), .int .i64 (2 : Int)])) = (0 : Int) from ?_) (all_cons (show (clampK .i64 (ρ.z.F.i 1 [.lst (ρ.z.rl 0), .int .i64 (3 : Int)])) = (0 : Int) from ?_) (all_cons (show (clampK .i64 (ρ.z.F.i 1 [.lst (ρ.z.rl 0), .int .i64 (4 : Int)])) = (0 : Int) from ?_) (all_cons (show (clampK .i64 (ρ.z.F.i 1 [.lst (ρ.z.rl 0), .int .i64 (5 : Int)])) = (0 : Int) from ?_) (all_nil))))))
  all_goals try simp only [hF, pi1, pb1, pb2, pb3, pb4, pb5, pb6]
  all_goals
    rw [show (ρ.z.rl 0).length = 0 by omega]
    exact clampS (by simp [cntN]) (by simp [cntN])
theorem vccnt0_1 : VC TTcnt invcnt mscnt 0 (startF 114 cCnt.pat (.lit true :: cCnt.pre)) wcnt0_1 := by
  intro ρ kn hi hp
  have hF : ρ.z.F = hold.Φ := kn.F
  simp only [h_nil, h_cons, d_le, d_eq, d_not, d_var, d_lit, d_cel, d_leq, d_fn, d_and, d_iff, IE.den, LE.den, AL.den, lenV, true_and, and_true, pccnt0_0, hF, pi1, pb1, pb2, pb3, pb4, pb5, pb6] at hp
  obtain ⟨p1, p2, p3⟩ := hp
  refine (show ((0 : Int) = (cntN (ρ.z.rl 0) 0 (0 : Int).toNat : Int) ∧ (0 : Int) = (cntN (ρ.z.rl 0) 1 (0 : Int).toNat : Int) ∧ (0 : Int) = (cntN (ρ.z.rl 0) 2 (0 : Int).toNat : Int) ∧ (0 : Int) = (cntN (ρ.z.rl 0) 3 (0 : Int).toNat : Int) ∧ (0 : Int) = (cntN (ρ.z.rl 0) 4 (0 : Int).toNat : Int) ∧ (0 : Int) = (cntN (ρ.z.rl 0) 5 (0 : Int).toNat : Int) ∧ modesN (ρ.z.rl 0) (ρ.z.rl 0).length = true ∧ 0 ≤ (0 : Int) ∧ (0 : Int) < ((ρ.z.rl 0).length : Int)) ∧ (((ρ.z.rl 0).length - (0 : Int).toNat : Nat) < (ρ.z.rl 0).length + 1) from ?_)
  refine ⟨⟨by simp [cntN], by simp [cntN], by simp [cntN], by simp [cntN], by simp [cntN], by simp [cntN], by assumption, by omega, by omega⟩, by omega⟩
def ivcnt1 (ρ : Rho) : Prop := (ρ.i .i64 1001) = (cntN (ρ.z.rl 0) 0 (ρ.i .i64 1000).toNat : Int) ∧ (ρ.i .i64 1002) = (cntN (ρ.z.rl 0) 1 (ρ.i .i64 1000).toNat : Int) ∧ (ρ.i .i64 1003) = (cntN (ρ.z.rl 0) 2 (ρ.i .i64 1000).toNat : Int) ∧ (ρ.i .i64 1004) = (cntN (ρ.z.rl 0) 3 (ρ.i .i64 1000).toNat : Int) ∧ (ρ.i .i64 1005) = (cntN (ρ.z.rl 0) 4 (ρ.i .i64 1000).toNat : Int) ∧ (ρ.i .i64 1006) = (cntN (ρ.z.rl 0) 5 (ρ.i .i64 1000).toNat : Int) ∧ modesN (ρ.z.rl 0) (ρ.z.rl 0).length = true ∧ 0 ≤ (ρ.i .i64 1000) ∧ (ρ.i .i64 1000) < ((ρ.z.rl 0).length : Int)
theorem vccnt1_0 : VC TTcnt invcnt mscnt 1 tcnt1 wcnt1_0 := by
  intro ρ kn hi hp
  have hi : ivcnt1 ρ := hi
  unfold ivcnt1 at hi
  have hF : ρ.z.F = hold.Φ := kn.F
  simp only [h_nil, h_cons, d_le, d_eq, d_not, d_var, d_lit, d_cel, d_leq, d_fn, d_and, d_iff, IE.den, LE.den, AL.den, lenV, true_and, and_true, pccnt1_1, pccnt1_0, hF, pi1, pb1, pb2, pb3, pb4, pb5, pb6] at hp
  obtain ⟨p1, p2, p3, p4, p5, p6, p7, p8, p9⟩ := hp
  refine all_cons (show (clampK .i64 (ρ.z.F.i 1 [.lst (ρ.z.rl 0), .int .i64 (0 : Int)])) = (IntKind.wrap .i64 ((ρ.i .i64 1001) + (1 : Int))) from ?_) (all_cons (show (clampK .i64 (ρ.z.F.i 1 [.lst (ρ.z.rl 0), .int .i64 (1 : Int)])) = (ρ.i .i64 1002) from ?_) (all_cons (show (clampK .i64 (ρ.z.F.i 1 [.lst (ρ.z.rl 0), .int .i64 (2 : Int)])) = (ρ.i .i64 1003) from ?_) (all_cons (show (clampK .i64 (ρ.z.F.i 1 [.lst (ρ.z.rl 0), .int .i64 (3 : Int)])) = (ρ.i .i64 1004) from ?_) (all_cons (show (clampK .i64 (ρ.z.F.i 1 [.lst (ρ.z.rl 0), .int .i64 (4 : Int)])) = (ρ.i .i64 1005) from ?_) (all_cons (show (clampK .i64 (ρ.z.F.i 1 [.lst (ρ.z.rl 0), .int .i64 (5 : Int)])) = (ρ.i .i64 1006) from ?_) (all_nil))))))
  all_goals try simp only [hF, pi1, pb1, pb2, pb3, pb4, pb5, pb6]
  all_goals
    obtain ⟨h0, h1, h2, h3, h4, h5, hm, h8, h9⟩ := hi
    have b0 := cnt_le (ρ.z.rl 0) 0 (ρ.i .i64 1000).toNat
    have b1 := cnt_le (ρ.z.rl 0) 1 (ρ.i .i64 1000).toNat
    have b2 := cnt_le (ρ.z.rl 0) 2 (ρ.i .i64 1000).toNat
    have b3 := cnt_le (ρ.z.rl 0) 3 (ρ.i .i64 1000).toNat
    have b4 := cnt_le (ρ.z.rl 0) 4 (ρ.i .i64 1000).toNat
    have b5 := cnt_le (ρ.z.rl 0) 5 (ρ.i .i64 1000).toNat
    rw [show (ρ.z.rl 0).length = (ρ.i .i64 1000 + 1).toNat by omega, cnt_s (by omega)]
    try rw [wrap1 (by omega) (by omega)]
    split
    · rw [clampS (by omega) (by omega)]; omega
    · rw [clampS (by omega) (by omega)]; omega
theorem vccnt1_1 : VC TTcnt invcnt mscnt 1 tcnt1 wcnt1_1 := by
  intro ρ kn hi hp
  have hi : ivcnt1 ρ := hi
  unfold ivcnt1 at hi
  have hF : ρ.z.F = hold.Φ := kn.F
  simp only [h_nil, h_cons, d_le, d_eq, d_not, d_var, d_lit, d_cel, d_leq, d_fn, d_and, d_iff, IE.den, LE.den, AL.den, lenV, true_and, and_true, pccnt1_1, pccnt1_0, hF, pi1, pb1, pb2, pb3, pb4, pb5, pb6] at hp
  obtain ⟨p1, p2, p3, p4, p5, p6, p7, p8, p9⟩ := hp
  refine (show ((IntKind.wrap .i64 ((ρ.i .i64 1001) + (1 : Int))) = (cntN (ρ.z.rl 0) 0 ((ρ.i .i64 1000) + (1 : Int)).toNat : Int) ∧ (ρ.i .i64 1002) = (cntN (ρ.z.rl 0) 1 ((ρ.i .i64 1000) + (1 : Int)).toNat : Int) ∧ (ρ.i .i64 1003) = (cntN (ρ.z.rl 0) 2 ((ρ.i .i64 1000) + (1 : Int)).toNat : Int) ∧ (ρ.i .i64 1004) = (cntN (ρ.z.rl 0) 3 ((ρ.i .i64 1000) + (1 : Int)).toNat : Int) ∧ (ρ.i .i64 1005) = (cntN (ρ.z.rl 0) 4 ((ρ.i .i64 1000) + (1 : Int)).toNat : Int) ∧ (ρ.i .i64 1006) = (cntN (ρ.z.rl 0) 5 ((ρ.i .i64 1000) + (1 : Int)).toNat : Int) ∧ modesN (ρ.z.rl 0) (ρ.z.rl 0).length = true ∧ 0 ≤ ((ρ.i .i64 1000) + (1 : Int)) ∧ ((ρ.i .i64 1000) + (1 : Int)) < ((ρ.z.rl 0).length : Int)) ∧ (((ρ.z.rl 0).length - ((ρ.i .i64 1000) + (1 : Int)).toNat : Nat) < (ρ.z.rl 0).length - (ρ.i .i64 1000).toNat) from ?_)
  obtain ⟨h0, h1, h2, h3, h4, h5, hm, h8, h9⟩ := hi
  have b0 := cnt_le (ρ.z.rl 0) 0 (ρ.i .i64 1000).toNat
  have b1 := cnt_le (ρ.z.rl 0) 1 (ρ.i .i64 1000).toNat
  have b2 := cnt_le (ρ.z.rl 0) 2 (ρ.i .i64 1000).toNat
  have b3 := cnt_le (ρ.z.rl 0) 3 (ρ.i .i64 1000).toNat
  have b4 := cnt_le (ρ.z.rl 0) 4 (ρ.i .i64 1000).toNat
  have b5 := cnt_le (ρ.z.rl 0) 5 (ρ.i .i64 1000).toNat
  refine ⟨⟨?_, ?_, ?_, ?_, ?_, ?_, hm, by omega, by omega⟩, by omega⟩
  all_goals
    rw [cnt_s (by omega)]
    try rw [wrap1 (by omega) (by omega)]
    split <;> omega
theorem vccnt1_2 : VC TTcnt invcnt mscnt 1 tcnt1 wcnt1_2 := by
  intro ρ kn hi hp
  have hi : ivcnt1 ρ := hi
  unfold ivcnt1 at hi
  have hF : ρ.z.F = hold.Φ := kn.F
  simp only [h_nil, h_cons, d_le, d_eq, d_not, d_var, d_lit, d_cel, d_leq, d_fn, d_and, d_iff, IE.den, LE.den, AL.den, lenV, true_and, and_true, pccnt1_3, pccnt1_2, pccnt1_0, hF, pi1, pb1, pb2, pb3, pb4, pb5, pb6] at hp
  obtain ⟨p1, p2, p3, p4, p5, p6, p7, p8, p9, p10⟩ := hp
  refine all_cons (show (clampK .i64 (ρ.z.F.i 1 [.lst (ρ.z.rl 0), .int .i64 (0 : Int)])) = (ρ.i .i64 1001) from ?_) (all_cons (show (clampK .i64 (ρ.z.F.i 1 [.lst (ρ.z.rl 0), .int .i64 (1 : Int)])) = (IntKind.wrap .i64 ((ρ.i .i64 1002) + (1 : Int))) from ?_) (all_cons (show (clampK .i64 (ρ.z.F.i 1 [.lst (ρ.z.rl 0), .int .i64 (2 : Int)])) = (ρ.i .i64 1003) from ?_) (all_cons (show (clampK .i64 (ρ.z.F.i 1 [.lst (ρ.z.rl 0), .int .i64 (3 : Int)])) = (ρ.i .i64 1004) from ?_) (all_cons (show (clampK .i64 (ρ.z.F.i 1 [.lst (ρ.z.rl 0), .int .i64 (4 : Int)])) = (ρ.i .i64 1005) from ?_) (all_cons (show (clampK .i64 (ρ.z.F.i 1 [.lst (ρ.z.rl 0), .int .i64 (5 : Int)])) = (ρ.i .i64 1006) from ?_) (all_nil))))))
  all_goals try simp only [hF, pi1, pb1, pb2, pb3, pb4, pb5, pb6]
  all_goals
    obtain ⟨h0, h1, h2, h3, h4, h5, hm, h8, h9⟩ := hi
    have b0 := cnt_le (ρ.z.rl 0) 0 (ρ.i .i64 1000).toNat
    have b1 := cnt_le (ρ.z.rl 0) 1 (ρ.i .i64 1000).toNat
    have b2 := cnt_le (ρ.z.rl 0) 2 (ρ.i .i64 1000).toNat
    have b3 := cnt_le (ρ.z.rl 0) 3 (ρ.i .i64 1000).toNat
    have b4 := cnt_le (ρ.z.rl 0) 4 (ρ.i .i64 1000).toNat
    have b5 := cnt_le (ρ.z.rl 0) 5 (ρ.i .i64 1000).toNat
    rw [show (ρ.z.rl 0).length = (ρ.i .i64 1000 + 1).toNat by omega, cnt_s (by omega)]
    try rw [wrap1 (by omega) (by omega)]
    split
    · rw [clampS (by omega) (by omega)]; omega
    · rw [clampS (by omega) (by omega)]; omega
theorem vccnt1_3 : VC TTcnt invcnt mscnt 1 tcnt1 wcnt1_3 := by
  intro ρ kn hi hp
  have hi : ivcnt1 ρ := hi
  unfold ivcnt1 at hi
  have hF : ρ.z.F = hold.Φ := kn.F
  simp only [h_nil, h_cons, d_le, d_eq, d_not, d_var, d_lit, d_cel, d_leq, d_fn, d_and, d_iff, IE.den, LE.den, AL.den, lenV, true_and, and_true, pccnt1_3, pccnt1_2, pccnt1_0, hF, pi1, pb1, pb2, pb3, pb4, pb5, pb6] at hp
  obtain ⟨p1, p2, p3, p4, p5, p6, p7, p8, p9, p10⟩ := hp
  refine (show ((ρ.i .i64 1001) = (cntN (ρ.z.rl 0) 0 ((ρ.i .i64 1000) + (1 : Int)).toNat : Int) ∧ (IntKind.wrap .i64 ((ρ.i .i64 1002) + (1 : Int))) = (cntN (ρ.z.rl 0) 1 ((ρ.i .i64 1000) + (1 : Int)).toNat : Int) ∧ (ρ.i .i64 1003) = (cntN (ρ.z.rl 0) 2 ((ρ.i .i64 1000) + (1 : Int)).toNat : Int) ∧ (ρ.i .i64 1004) = (cntN (ρ.z.rl 0) 3 ((ρ.i .i64 1000) + (1 : Int)).toNat : Int) ∧ (ρ.i .i64 1005) = (cntN (ρ.z.rl 0) 4 ((ρ.i .i64 1000) + (1 : Int)).toNat : Int) ∧ (ρ.i .i64 1006) = (cntN (ρ.z.rl 0) 5 ((ρ.i .i64 1000) + (1 : Int)).toNat : Int) ∧ modesN (ρ.z.rl 0) (ρ.z.rl 0).length = true ∧ 0 ≤ ((ρ.i .i64 1000) + (1 : Int)) ∧ ((ρ.i .i64 1000) + (1 : Int)) < ((ρ.z.rl 0).length : Int)) ∧ (((ρ.z.rl 0).length - ((ρ.i .i64 1000) + (1 : Int)).toNat : Nat) < (ρ.z.rl 0).length - (ρ.i .i64 1000).toNat) from ?_)
  obtain ⟨h0, h1, h2, h3, h4, h5, hm, h8, h9⟩ := hi
  have b0 := cnt_le (ρ.z.rl 0) 0 (ρ.i .i64 1000).toNat
  have b1 := cnt_le (ρ.z.rl 0) 1 (ρ.i .i64 1000).toNat
  have b2 := cnt_le (ρ.z.rl 0) 2 (ρ.i .i64 1000).toNat
  have b3 := cnt_le (ρ.z.rl 0) 3 (ρ.i .i64 1000).toNat
  have b4 := cnt_le (ρ.z.rl 0) 4 (ρ.i .i64 1000).toNat
  have b5 := cnt_le (ρ.z.rl 0) 5 (ρ.i .i64 1000).toNat
  refine ⟨⟨?_, ?_, ?_, ?_, ?_, ?_, hm, by omega, by omega⟩, by omega⟩
  all_goals
    rw [cnt_s (by omega)]
    try rw [wrap1 (by omega) (by omega)]
    split <;> omega
theorem vccnt1_4 : VC TTcnt invcnt mscnt 1 tcnt1 wcnt1_4 := by
  intro ρ kn hi hp
  have hi : ivcnt1 ρ := hi
  unfold ivcnt1 at hi
  have hF : ρ.z.F = hold.Φ := kn.F
  simp only [h_nil, h_cons, d_le, d_eq, d_not, d_var, d_lit, d_cel, d_leq, d_fn, d_and, d_iff, IE.den, LE.den, AL.den, lenV, true_and, and_true, pccnt1_5, pccnt1_4, pccnt1_2, pccnt1_0, hF, pi1, pb1, pb2, pb3, pb4, pb5, pb6] at hp
  obtain ⟨p1, p2, p3, p4, p5, p6, p7, p8, p9, p10, p11⟩ := hp
  refine all_cons (show (clampK .i64 (ρ.z.F.i 1 [.lst (ρ.z.rl 0), .int .i64 (0 : Int)])) = (ρ.i .i64 1001) from ?_) (all_cons (show (clampK .i64 (ρ.z.F.i 1 [.lst (ρ.z.rl 0), .int .i64 (1 : Int)])) = (ρ.i .i64 1002) from ?_) (all_cons (show (clampK .i64 (ρ.z.F.i 1 [.lst (ρ.z.rl 0), .int .i64 (2 : Int)])) = (IntKind.wrap .i64 ((ρ.i .i64 1003) + (1 : Int))) from ?_) (all_cons (show (clampK .i64 (ρ.z.F.i 1 [.lst (ρ.z.rl 0), .int .i64 (3 : Int)])) = (ρ.i .i64 1004) from ?_) (all_cons (show (clampK .i64 (ρ.z.F.i 1 [.lst (ρ.z.rl 0), .int .i64 (4 : Int)])) = (ρ.i .i64 1005) from ?_) (all_cons (show (clampK .i64 (ρ.z.F.i 1 [.lst (ρ.z.rl 0), .int .i64 (5 : Int)])) = (ρ.i .i64 1006) from ?_) (all_nil))))))
  all_goals try simp only [hF, pi1, pb1, pb2, pb3, pb4, pb5, pb6]
  all_goals
    obtain ⟨h0, h1, h2, h3, h4, h5, hm, h8, h9⟩ := hi
    have b0 := cnt_le (ρ.z.rl 0) 0 (ρ.i .i64 1000).toNat
    have b1 := cnt_le (ρ.z.rl 0) 1 (ρ.i .i64 1000).toNat
    have b2 := cnt_le (ρ.z.rl 0) 2 (ρ.i .i64 1000).toNat
    have b3 := cnt_le (ρ.z.rl 0) 3 (ρ.i .i64 1000).toNat
    have b4 := cnt_le (ρ.z.rl 0) 4 (ρ.i .i64 1000).toNat
    have b5 := cnt_le (ρ.z.rl 0) 5 (ρ.i .i64 1000).toNat
    rw [show (ρ.z.rl 0).length = (ρ.i .i64 1000 + 1).toNat by omega, cnt_s (by omega)]
    try rw [wrap1 (by omega) (by omega)]
    split
    · rw [clampS (by omega) (by omega)]; omega
    · rw [clampS (by omega) (by omega)]; omega
theorem vccnt1_5 : VC TTcnt invcnt mscnt 1 tcnt1 wcnt1_5 := by
  intro ρ kn hi hp
  have hi : ivcnt1 ρ := hi
  unfold ivcnt1 at hi
  have hF : ρ.z.F = hold.Φ := kn.F
  simp only [h_nil, h_cons, d_le, d_eq, d_not, d_var, d_lit, d_cel, d_leq, d_fn, d_and, d_iff, IE.den, LE.den, AL.den, lenV, true_and, and_true, pccnt1_5, pccnt1_4, pccnt1_2, pccnt1_0, hF, pi1, pb1, pb2, pb3, pb4, pb5, pb6] at hp
  obtain ⟨p1, p2, p3, p4, p5, p6, p7, p8, p9, p10, p11⟩ := hp
  refine (show ((ρ.i .i64 1001) = (cntN (ρ.z.rl 0) 0 ((ρ.i .i64 1000) + (1 : Int)).toNat : Int) ∧ (ρ.i .i64 1002) = (cntN (ρ.z.rl 0) 1 ((ρ.i .i64 1000) + (1 : Int)).toNat : Int) ∧ (IntKind.wrap .i64 ((ρ.i .i64 1003) + (1 : Int))) = (cntN (ρ.z.rl 0) 2 ((ρ.i .i64 1000) + (1 : Int)).toNat : Int) ∧ (ρ.i .i64 1004) = (cntN (ρ.z.rl 0) 3 ((ρ.i .i64 1000) + (1 : Int)).toNat : Int) ∧ (ρ.i .i64 1005) = (cntN (ρ.z.rl 0) 4 ((ρ.i .i64 1000) + (1 : Int)).toNat : Int) ∧ (ρ.i .i64 1006) = (cntN (ρ.z.rl 0) 5 ((ρ.i .i64 1000) + (1 : Int)).toNat : Int) ∧ modesN (ρ.z.rl 0) (ρ.z.rl 0).length = true ∧ 0 ≤ ((ρ.i .i64 1000) + (1 : Int)) ∧ ((ρ.i .i64 1000) + (1 : Int)) < ((ρ.z.rl 0).length : Int)) ∧ (((ρ.z.rl 0).length - ((ρ.i .i64 1000) + (1 : Int)).toNat : Nat) < (ρ.z.rl 0).length - (ρ.i .i64 1000).toNat) from ?_)
  obtain ⟨h0, h1, h2, h3, h4, h5, hm, h8, h9⟩ := hi
  have b0 := cnt_le (ρ.z.rl 0) 0 (ρ.i .i64 1000).toNat
  have b1 := cnt_le (ρ.z.rl 0) 1 (ρ.i .i64 1000).toNat
  have b2 := cnt_le (ρ.z.rl 0) 2 (ρ.i .i64 1000).toNat
  have b3 := cnt_le (ρ.z.rl 0) 3 (ρ.i .i64 1000).toNat
  have b4 := cnt_le (ρ.z.rl 0) 4 (ρ.i .i64 1000).toNat
  have b5 := cnt_le (ρ.z.rl 0) 5 (ρ.i .i64 1000).toNat
  refine ⟨⟨?_, ?_, ?_, ?_, ?_, ?_, hm, by omega, by omega⟩, by omega⟩
  all_goals
    rw [cnt_s (by omega)]
    try rw [wrap1 (by omega) (by omega)]
    split <;> omega
theorem vccnt1_6 : VC TTcnt invcnt mscnt 1 tcnt1 wcnt1_6 := by
  intro ρ kn hi hp
  have hi : ivcnt1 ρ := hi
  unfold ivcnt1 at hi
  have hF : ρ.z.F = hold.Φ := kn.F
  simp only [h_nil, h_cons, d_le, d_eq, d_not, d_var, d_lit, d_cel, d_leq, d_fn, d_and, d_iff, IE.den, LE.den, AL.den, lenV, true_and, and_true, pccnt1_7, pccnt1_6, pccnt1_4, pccnt1_2, pccnt1_0, hF, pi1, pb1, pb2, pb3, pb4, pb5, pb6] at hp
  obtain ⟨p1, p2, p3, p4, p5, p6, p7, p8, p9, p10, p11, p12⟩ := hp
  refine all_cons (show (clampK .i64 (ρ.z.F.i 1 [.lst (ρ.z.rl 0), .int .i64 (0 : Int)])) = (ρ.i .i64 1001) from ?_) (all_cons (show (clampK .i64 (ρ.z.F.i 1 [.lst (ρ.z.rl 0), .int .i64 (1 : Int)])) = (ρ.i .i64 1002) from ?_) (all_cons (show (clampK .i64 (ρ.z.F.i 1 [.lst (ρ.z.rl 0), .int .i64 (2 : Int)])) = (ρ.i .i64 1003) from ?_) (all_cons (show (clampK .i64 (ρ.z.F.i 1 [.lst (ρ.z.rl 0), .int .i64 (3 : Int)])) = (IntKind.wrap .i64 ((ρ.i .i64 1004) + (1 : Int))) from ?_) (all_cons (show (clampK .i64 (ρ.z.F.i 1 [.lst (ρ.z.rl 0), .int .i64 (4 : Int)])) = (ρ.i .i64 1005) from ?_) (all_cons (show (clampK .i64 (ρ.z.F.i 1 [.lst (ρ.z.rl 0), .int .i64 (5 : Int)])) = (ρ.i .i64 1006) from ?_) (all_nil))))))
  all_goals try simp only [hF, pi1, pb1, pb2, pb3, pb4, pb5, pb6]
  all_goals
    obtain ⟨h0, h1, h2, h3, h4, h5, hm, h8, h9⟩ := hi
    have b0 := cnt_le (ρ.z.rl 0) 0 (ρ.i .i64 1000).toNat
    have b1 := cnt_le (ρ.z.rl 0) 1 (ρ.i .i64 1000).toNat
    have b2 := cnt_le (ρ.z.rl 0) 2 (ρ.i .i64 1000).toNat
    have b3 := cnt_le (ρ.z.rl 0) 3 (ρ.i .i64 1000).toNat
    have b4 := cnt_le (ρ.z.rl 0) 4 (ρ.i .i64 1000).toNat
    have b5 := cnt_le (ρ.z.rl 0) 5 (ρ.i .i64 1000).toNat
    rw [show (ρ.z.rl 0).length = (ρ.i .i64 1000 + 1).toNat by omega, cnt_s (by omega)]
    try rw [wrap1 (by omega) (by omega)]
    split
    · rw [clampS (by omega) (by omega)]; omega
    · rw [clampS (by omega) (by omega)]; omega
theorem vccnt1_7 : VC TTcnt invcnt mscnt 1 tcnt1 wcnt1_7 := by
  intro ρ kn hi hp
  have hi : ivcnt1 ρ := hi
  unfold ivcnt1 at hi
  have hF : ρ.z.F = hold.Φ := kn.F
  simp only [h_nil, h_cons, d_le, d_eq, d_not, d_var, d_lit, d_cel, d_leq, d_fn, d_and, d_iff, IE.den, LE.den, AL.den, lenV, true_and, and_true, pccnt1_7, pccnt1_6, pccnt1_4, pccnt1_2, pccnt1_0, hF, pi1, pb1, pb2, pb3, pb4, pb5, pb6] at hp
  obtain ⟨p1, p2, p3, p4, p5, p6, p7, p8, p9, p10, p11, p12⟩ := hp
  refine (show ((ρ.i .i64 1001) = (cntN (ρ.z.rl 0) 0 ((ρ.i .i64 1000) + (1 : Int)).toNat : Int) ∧ (ρ.i .i64 1002) = (cntN (ρ.z.rl 0) 1 ((ρ.i .i64 1000) + (1 : Int)).toNat : Int) ∧ (ρ.i .i64 1003) = (cntN (ρ.z.rl 0) 2 ((ρ.i .i64 1000) + (1 : Int)).toNat : Int) ∧ (IntKind.wrap .i64 ((ρ.i .i64 1004) + (1 : Int))) = (cntN (ρ.z.rl 0) 3 ((ρ.i .i64 1000) + (1 : Int)).toNat : Int) ∧ (ρ.i .i64 1005) = (cntN (ρ.z.rl 0) 4 ((ρ.i .i64 1000) + (1 : Int)).toNat : Int) ∧ (ρ.i .i64 1006) = (cntN (ρ.z.rl 0) 5 ((ρ.i .i64 1000) + (1 : Int)).toNat : Int) ∧ modesN (ρ.z.rl 0) (ρ.z.rl 0).length = true ∧ 0 ≤ ((ρ.i .i64 1000) + (1 : Int)) ∧ ((ρ.i .i64 1000) + (1 : Int)) < ((ρ.z.rl 0).length : Int)) ∧ (((ρ.z.rl 0).length - ((ρ.i .i64 1000) + (1 : Int)).toNat : Nat) < (ρ.z.rl 0).length - (ρ.i .i64 1000).toNat) from ?_)
  obtain ⟨h0, h1, h2, h3, h4, h5, hm, h8, h9⟩ := hi
  have b0 := cnt_le (ρ.z.rl 0) 0 (ρ.i .i64 1000).toNat
  have b1 := cnt_le (ρ.z.rl 0) 1 (ρ.i .i64 1000).toNat
  have b2 := cnt_le (ρ.z.rl 0) 2 (ρ.i .i64 1000).toNat
  have b3 := cnt_le (ρ.z.rl 0) 3 (ρ.i .i64 1000).toNat
  have b4 := cnt_le (ρ.z.rl 0) 4 (ρ.i .i64 1000).toNat
  have b5 := cnt_le (ρ.z.rl 0) 5 (ρ.i .i64 1000).toNat
  refine ⟨⟨?_, ?_, ?_, ?_, ?_, ?_, hm, by omega, by omega⟩, by omega⟩
  all_goals
    rw [cnt_s (by omega)]
    try rw [wrap1 (by omega) (by omega)]
    split <;> omega
theorem vccnt1_8 : VC TTcnt invcnt mscnt 1 tcnt1 wcnt1_8 := by
  intro ρ kn hi hp
  have hi : ivcnt1 ρ := hi
  unfold ivcnt1 at hi
  have hF : ρ.z.F = hold.Φ := kn.F
  simp only [h_nil, h_cons, d_le, d_eq, d_not, d_var, d_lit, d_cel, d_leq, d_fn, d_and, d_iff, IE.den, LE.den, AL.den, lenV, true_and, and_true, pccnt1_9, pccnt1_8, pccnt1_6, pccnt1_4, pccnt1_2, pccnt1_0, hF, pi1, pb1, pb2, pb3, pb4, pb5, pb6] at hp
  obtain ⟨p1, p2, p3, p4, p5, p6, p7, p8, p9, p10, p11, p12, p13⟩ := hp
  refine all_cons (show (clampK .i64 (ρ.z.F.i 1 [.lst (ρ.z.rl 0), .int .i64 (0 : Int)])) = (ρ.i .i64 1001) from ?_) (all_cons (show (clampK .i64 (ρ.z.F.i 1 [.lst (ρ.z.rl 0), .int .i64 (1 : Int)])) = (ρ.i .i64 1002) from ?_) (all_cons (show (clampK .i64 (ρ.z.F.i 1 [.lst (ρ.z.rl 0), .int .i64 (2 : Int)])) = (ρ.i .i64 1003) from ?_) (all_cons (show (clampK .i64 (ρ.z.F.i 1 [.lst (ρ.z.rl 0), .int .i64 (3 : Int)])) = (ρ.i .i64 1004) from ?_) (all_cons (show (clampK .i64 (ρ.z.F.i 1 [.lst (ρ.z.rl 0), .int .i64 (4 : Int)])) = (IntKind.wrap .i64 ((ρ.i .i64 1005) + (1 : Int))) from ?_) (all_cons (show (clampK .i64 (ρ.z.F.i 1 [.lst (ρ.z.rl 0), .int .i64 (5 : Int)])) = (ρ.i .i64 1006) from ?_) (all_nil))))))
  all_goals try simp only [hF, pi1, pb1, pb2, pb3, pb4, pb5, pb6]
  all_goals
    obtain ⟨h0, h1, h2, h3, h4, h5, hm, h8, h9⟩ := hi
    have b0 := cnt_le (ρ.z.rl 0) 0 (ρ.i .i64 1000).toNat
    have b1 := cnt_le (ρ.z.rl 0) 1 (ρ.i .i64 1000).toNat
    have b2 := cnt_le (ρ.z.rl 0) 2 (ρ.i .i64 1000).toNat
    have b3 := cnt_le (ρ.z.rl 0) 3 (ρ.i .i64 1000).toNat
    have b4 := cnt_le (ρ.z.rl 0) 4 (ρ.i .i64 1000).toNat
    have b5 := cnt_le (ρ.z.rl 0) 5 (ρ.i .i64 1000).toNat
    rw [show (ρ.z.rl 0).length = (ρ.i .i64 1000 + 1).toNat by omega, cnt_s (by omega)]
    try rw [wrap1 (by omega) (by omega)]
    split
    · rw [clampS (by omega) (by omega)]; omega
    · rw [clampS (by omega) (by omega)]; omega
theorem vccnt1_9 : VC TTcnt invcnt mscnt 1 tcnt1 wcnt1_9 := by
  intro ρ kn hi hp
  have hi : ivcnt1 ρ := hi
  unfold ivcnt1 at hi
  have hF : ρ.z.F = hold.Φ := kn.F
  simp only [h_nil, h_cons, d_le, d_eq, d_not, d_var, d_lit, d_cel, d_leq, d_fn, d_and, d_iff, IE.den, LE.den, AL.den, lenV, true_and, and_true, pccnt1_9, pccnt1_8, pccnt1_6, pccnt1_4, pccnt1_2, pccnt1_0, hF, pi1, pb1, pb2, pb3, pb4, pb5, pb6] at hp
  obtain ⟨p1, p2, p3, p4, p5, p6, p7, p8, p9, p10, p11, p12, p13⟩ := hp
  refine (show ((ρ.i .i64 1001) = (cntN (ρ.z.rl 0) 0 ((ρ.i .i64 1000) + (1 : Int)).toNat : Int) ∧ (ρ.i .i64 1002) = (cntN (ρ.z.rl 0) 1 ((ρ.i .i64 1000) + (1 : Int)).toNat : Int) ∧ (ρ.i .i64 1003) = (cntN (ρ.z.rl 0) 2 ((ρ.i .i64 1000) + (1 : Int)).toNat : Int) ∧ (ρ.i .i64 1004) = (cntN (ρ.z.rl 0) 3 ((ρ.i .i64 1000) + (1 : Int)).toNat : Int) ∧ (IntKind.wrap .i64 ((ρ.i .i64 1005) + (1 : Int))) = (cntN (ρ.z.rl 0) 4 ((ρ.i .i64 1000) + (1 : Int)).toNat : Int) ∧ (ρ.i .i64 1006) = (cntN (ρ.z.rl 0) 5 ((ρ.i .i64 1000) + (1 : Int)).toNat : Int) ∧ modesN (ρ.z.rl 0) (ρ.z.rl 0).length = true ∧ 0 ≤ ((ρ.i .i64 1000) + (1 : Int)) ∧ ((ρ.i .i64 1000) + (1 : Int)) < ((ρ.z.rl 0).length : Int)) ∧ (((ρ.z.rl 0).length - ((ρ.i .i64 1000) + (1 : Int)).toNat : Nat) < (ρ.z.rl 0).length - (ρ.i .i64 1000).toNat) from ?_)
  obtain ⟨h0, h1, h2, h3, h4, h5, hm, h8, h9⟩ := hi
  have b0 := cnt_le (ρ.z.rl 0) 0 (ρ.i .i64 1000).toNat
  have b1 := cnt_le (ρ.z.rl 0) 1 (ρ.i .i64 1000).toNat
  have b2 := cnt_le (ρ.z.rl 0) 2 (ρ.i .i64 1000).toNat
  have b3 := cnt_le (ρ.z.rl 0) 3 (ρ.i .i64 1000).toNat
  have b4 := cnt_le (ρ.z.rl 0) 4 (ρ.i .i64 1000).toNat
  have b5 := cnt_le (ρ.z.rl 0) 5 (ρ.i .i64 1000).toNat
  refine ⟨⟨?_, ?_, ?_, ?_, ?_, ?_, hm, by omega, by omega⟩, by omega⟩
  all_goals
    rw [cnt_s (by omega)]
    try rw [wrap1 (by omega) (by omega)]
    split <;> omega
theorem vccnt1_10 : VC TTcnt invcnt mscnt 1 tcnt1 wcnt1_10 := by
  intro ρ kn hi hp
  have hi : ivcnt1 ρ := hi
  unfold ivcnt1 at hi
  have hF : ρ.z.F = hold.Φ := kn.F
  simp only [h_nil, h_cons, d_le, d_eq, d_not, d_var, d_lit, d_cel, d_leq, d_fn, d_and, d_iff, IE.den, LE.den, AL.den, lenV, true_and, and_true, pccnt1_10, pccnt1_8, pccnt1_6, pccnt1_4, pccnt1_2, pccnt1_0, hF, pi1, pb1, pb2, pb3, pb4, pb5, pb6] at hp
  obtain ⟨p1, p2, p3, p4, p5, p6, p7, p8, p9, p10, p11, p12, p13⟩ := hp
  refine all_cons (show (clampK .i64 (ρ.z.F.i 1 [.lst (ρ.z.rl 0), .int .i64 (0 : Int)])) = (ρ.i .i64 1001) from ?_) (all_cons (show (clampK .i64 (ρ.z.F.i 1 [.lst (ρ.z.rl 0), .int .i64 (1 : Int)])) = (ρ.i .i64 1002) from ?_) (all_cons (show (clampK .i64 (ρ.z.F.i 1 [.lst (ρ.z.rl 0), .int .i64 (2 : Int)])) = (ρ.i .i64 1003) from ?_) (all_cons (show (clampK .i64 (ρ.z.F.i 1 [.lst (ρ.z.rl 0), .int .i64 (3 : Int)])) = (ρ.i .i64 1004) from ?_) (all_cons (show (clampK .i64 (ρ.z.F.i 1 [.lst (ρ.z.rl 0), .int .i64 (4 : Int)])) = (ρ.i .i64 1005) from ?_) (all_cons (show (clampK .i64 (ρ.z.F.i 1 [.lst (ρ.z.rl 0), .int .i64 (5 : Int)])) = (IntKind.wrap .i64 ((ρ.i .i64 1006) + (1 : Int))) from ?_) (all_nil))))))
  all_goals try simp only [hF, pi1, pb1, pb2, pb3, pb4, pb5, pb6]
  all_goals
    obtain ⟨h0, h1, h2, h3, h4, h5, hm, h8, h9⟩ := hi
    have b0 := cnt_le (ρ.z.rl 0) 0 (ρ.i .i64 1000).toNat
    have b1 := cnt_le (ρ.z.rl 0) 1 (ρ.i .i64 1000).toNat
    have b2 := cnt_le (ρ.z.rl 0) 2 (ρ.i .i64 1000).toNat
    have b3 := cnt_le (ρ.z.rl 0) 3 (ρ.i .i64 1000).toNat
    have b4 := cnt_le (ρ.z.rl 0) 4 (ρ.i .i64 1000).toNat
    have b5 := cnt_le (ρ.z.rl 0) 5 (ρ.i .i64 1000).toNat
    rw [show (ρ.z.rl 0).length = (ρ.i .i64 1000 + 1).toNat by omega, cnt_s (by omega)]
    try rw [wrap1 (by omega) (by omega)]
    split
    · rw [clampS (by omega) (by omega)]; omega
    · rw [clampS (by omega) (by omega)]; omega
theorem vccnt1_11 : VC TTcnt invcnt mscnt 1 tcnt1 wcnt1_11 := by
  intro ρ kn hi hp
  have hi : ivcnt1 ρ := hi
  unfold ivcnt1 at hi
  have hF : ρ.z.F = hold.Φ := kn.F
  simp only [h_nil, h_cons, d_le, d_eq, d_not, d_var, d_lit, d_cel, d_leq, d_fn, d_and, d_iff, IE.den, LE.den, AL.den, lenV, true_and, and_true, pccnt1_10, pccnt1_8, pccnt1_6, pccnt1_4, pccnt1_2, pccnt1_0, hF, pi1, pb1, pb2, pb3, pb4, pb5, pb6] at hp
  obtain ⟨p1, p2, p3, p4, p5, p6, p7, p8, p9, p10, p11, p12, p13⟩ := hp
  refine (show ((ρ.i .i64 1001) = (cntN (ρ.z.rl 0) 0 ((ρ.i .i64 1000) + (1 : Int)).toNat : Int) ∧ (ρ.i .i64 1002) = (cntN (ρ.z.rl 0) 1 ((ρ.i .i64 1000) + (1 : Int)).toNat : Int) ∧ (ρ.i .i64 1003) = (cntN (ρ.z.rl 0) 2 ((ρ.i .i64 1000) + (1 : Int)).toNat : Int) ∧ (ρ.i .i64 1004) = (cntN (ρ.z.rl 0) 3 ((ρ.i .i64 1000) + (1 : Int)).toNat : Int) ∧ (ρ.i .i64 1005) = (cntN (ρ.z.rl 0) 4 ((ρ.i .i64 1000) + (1 : Int)).toNat : Int) ∧ (IntKind.wrap .i64 ((ρ.i .i64 1006) + (1 : Int))) = (cntN (ρ.z.rl 0) 5 ((ρ.i .i64 1000) + (1 : Int)).toNat : Int) ∧ modesN (ρ.z.rl 0) (ρ.z.rl 0).length = true ∧ 0 ≤ ((ρ.i .i64 1000) + (1 : Int)) ∧ ((ρ.i .i64 1000) + (1 : Int)) < ((ρ.z.rl 0).length : Int)) ∧ (((ρ.z.rl 0).length - ((ρ.i .i64 1000) + (1 : Int)).toNat : Nat) < (ρ.z.rl 0).length - (ρ.i .i64 1000).toNat) from ?_)
  obtain ⟨h0, h1, h2, h3, h4, h5, hm, h8, h9⟩ := hi
  have b0 := cnt_le (ρ.z.rl 0) 0 (ρ.i .i64 1000).toNat
  have b1 := cnt_le (ρ.z.rl 0) 1 (ρ.i .i64 1000).toNat
  have b2 := cnt_le (ρ.z.rl 0) 2 (ρ.i .i64 1000).toNat
  have b3 := cnt_le (ρ.z.rl 0) 3 (ρ.i .i64 1000).toNat
  have b4 := cnt_le (ρ.z.rl 0) 4 (ρ.i .i64 1000).toNat
  have b5 := cnt_le (ρ.z.rl 0) 5 (ρ.i .i64 1000).toNat
  refine ⟨⟨?_, ?_, ?_, ?_, ?_, ?_, hm, by omega, by omega⟩, by omega⟩
  all_goals
    rw [cnt_s (by omega)]
    try rw [wrap1 (by omega) (by omega)]
    split <;> omega
theorem vcscnt0 : ∀ v ∈ vwcnt 0, VC TTcnt invcnt mscnt 0 (startF 114 cCnt.pat (.lit true :: cCnt.pre)) v := all_cons vccnt0_0 (all_cons vccnt0_1 (all_nil))
theorem okcnt0 : cfgOk (startF 114 cCnt.pat (.lit true :: cCnt.pre)) = true := by kernel_rfl
theorem sgcnt0 : segL cCnt.roms cCnt (seg TTcnt selcnt 900 tmcnt (startF 114 cCnt.pat (.lit true :: cCnt.pre))) = (true, codesR tmcnt (views (seg TTcnt selcnt 900 tmcnt (startF 114 cCnt.pat (.lit true :: cCnt.pre)))), vwcnt 0) := by kernel_rfl
theorem vcscnt1 : ∀ v ∈ vwcnt 1, VC TTcnt invcnt mscnt 1 tcnt1 v := all_cons vccnt1_0 (all_cons vccnt1_1 (all_cons vccnt1_2 (all_cons vccnt1_3 (all_cons vccnt1_4 (all_cons vccnt1_5 (all_cons vccnt1_6 (all_cons vccnt1_7 (all_cons vccnt1_8 (all_cons vccnt1_9 (all_cons vccnt1_10 (all_cons vccnt1_11 (all_nil))))))))))))
theorem okcnt1 : cfgOk tcnt1 = true := by kernel_rfl
theorem sgcnt1 : segL cCnt.roms cCnt (seg TTcnt selcnt 900 tmcnt tcnt1) = (true, codesR tmcnt (views (seg TTcnt selcnt 900 tmcnt tcnt1)), vwcnt 1) := by kernel_rfl
theorem lncnt0 : ∀ ρ, Known TTcnt (startF 114 cCnt.pat (.lit true :: cCnt.pre)) ρ → invcnt 0 ρ.lt → Holds ρ (leanOf (Cfg.pc (startF 114 cCnt.pat (.lit true :: cCnt.pre)))) := by
  intro ρ _ _
  exact (show Holds ρ [] from fun p hp => by cases hp)
theorem lncnt1 : ∀ ρ, Known TTcnt tcnt1 ρ → invcnt 1 ρ.lt → Holds ρ (leanOf (Cfg.pc tcnt1)) := by
  intro ρ kn hi
  refine (show Holds ρ [.le (.lit 0) (.cel .i64 (.rom 0) (.var .i64 1000) 0), .le (.cel .i64 (.rom 0) (.var .i64 1000) 0) (.lit 5)] from ?_)
  have hi : (ρ.i .i64 1001) = (cntN (ρ.z.rl 0) 0 (ρ.i .i64 1000).toNat : Int) ∧ (ρ.i .i64 1002) = (cntN (ρ.z.rl 0) 1 (ρ.i .i64 1000).toNat : Int) ∧ (ρ.i .i64 1003) = (cntN (ρ.z.rl 0) 2 (ρ.i .i64 1000).toNat : Int) ∧ (ρ.i .i64 1004) = (cntN (ρ.z.rl 0) 3 (ρ.i .i64 1000).toNat : Int) ∧ (ρ.i .i64 1005) = (cntN (ρ.z.rl 0) 4 (ρ.i .i64 1000).toNat : Int) ∧ (ρ.i .i64 1006) = (cntN (ρ.z.rl 0) 5 (ρ.i .i64 1000).toNat : Int) ∧ modesN (ρ.z.rl 0) (ρ.z.rl 0).length = true ∧ 0 ≤ (ρ.i .i64 1000) ∧ (ρ.i .i64 1000) < ((ρ.z.rl 0).length : Int) := hi
  have hF : ρ.z.F = hold.Φ := kn.F
  simp only [h_nil, h_cons, d_le, d_eq, d_not, d_var, d_lit, d_cel, d_leq, d_fn, d_and, d_iff, IE.den, LE.den, AL.den, lenV, true_and, and_true, hF, pi1, pb1, pb2, pb3, pb4, pb5, pb6]
  obtain ⟨_, _, _, _, _, _, hm, h8, h9⟩ := hi
  rw [at_z h8]
  exact modes_at (by omega) hm
theorem told_cnt : Sx.Told hold.Φ cCnt := by
  refine told_of (cs := []) (all_nil) (sel := selcnt) 900 tmcnt invcnt mscnt vwcnt 0 (pc0 := (.lit true :: cCnt.pre)) (by kernel_rfl) (by kernel_rfl) (by kernel_rfl) (post_nil rfl) ?_ ?_ ?_ rfl (fun ρ _ h => h.cons (p := .lit true) (by simp only [BE.den])) (fun _ _ _ _ => trivial) ?_
  · intro k C h
    have := lk_mem h
    simp only [tmcnt, List.mem_cons, Prod.mk.injEq, List.not_mem_nil, or_false] at this
    rcases this with ⟨rfl, rfl⟩ | ⟨rfl, rfl⟩
    · exact okcnt0
    · exact okcnt1
  · intro k C h
    have := lk_mem h
    simp only [tmcnt, List.mem_cons, Prod.mk.injEq, List.not_mem_nil, or_false] at this
    rcases this with ⟨rfl, rfl⟩ | ⟨rfl, rfl⟩
    · exact sgcnt0
    · exact sgcnt1
  · intro k C h
    have := lk_mem h
    simp only [tmcnt, List.mem_cons, Prod.mk.injEq, List.not_mem_nil, or_false] at this
    rcases this with ⟨rfl, rfl⟩ | ⟨rfl, rfl⟩
    · exact vcscnt0
    · exact vcscnt1
  · intro k C h
    have := lk_mem h
    simp only [tmcnt, List.mem_cons, Prod.mk.injEq, List.not_mem_nil, or_false] at this
    rcases this with ⟨rfl, rfl⟩ | ⟨rfl, rfl⟩
    · exact lncnt0
    · exact lncnt1
end Go.Proofs.YteblnjgghbclpaaDoor.hold
