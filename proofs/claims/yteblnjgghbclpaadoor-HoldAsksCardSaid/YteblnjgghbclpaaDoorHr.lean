/- Layer hold: the law HoldAsks. No condition. -/
import Derived.Test.YteblnjgghbclpaaDoorHk
import Derived.Test.YteblnjgghbclpaaDoorHq
set_option linter.unusedVariables false
set_option linter.unusedSimpArgs false
set_option linter.deprecated false
namespace Go.Proofs.YteblnjgghbclpaaDoor.hold
open Go Go.Proofs.YteblnjgghbclpaaDoor.Sx
theorem write_is {R : LV} {x : Int} (hr : rightL R = true) (h0 : 0 ≤ x) (hl : x < (R.length : Int)) (h : atI R x.toNat 2 = 5) : x = ((writeN R R.length : Nat) : Int) ∧ writeN R R.length < R.length := by
  have hlt : writeN R R.length < R.length := by
    refine Nat.lt_of_le_of_ne (first_le _ _) fun e => ?_
    have := first_all (p := fun i => decide (atI R i 2 = 5)) (n := R.length) (by unfold writeN at e; omega) (i := x.toNat) (by omega)
    simp only [h] at this; simp at this
  have h2 : atI R (writeN R R.length) 2 = 5 := by
    have := first_at (p := fun i => decide (atI R i 2 = 5)) (n := R.length) hlt
    exact of_decide_eq_true this
  have := writer_one hr (i := x.toNat) (k := writeN R R.length) (by omega) hlt h
  exact ⟨by omega, hlt⟩
noncomputable section
abbrev TTasksz : Tab := T hold.Φ cAsks0.roms [cWorks, cRightP, cRightR, cFindIn, cFindOut, cFindN, cFitsA, cWrites, cM86, cM86z, cM51, cM51z, cRF0, cRFin, cRFout, cRFits, cRight03]
def pcasksz_0 : List BE := [(BE.lit true)]
def pcasksz_1 : List BE := ((BE.fn 4 (AL.lst (LE.take (LE.rom 0) (IE.lit 0)) AL.nil)) :: pcasksz_0)
def pcasksz_2 : List BE := ((BE.le (IE.lit 0) (IE.fn .i64 2 (AL.lst (LE.take (LE.rom 0) (IE.lit 0)) (AL.int .i64 (IE.var .i64 1) AL.nil)))) :: pcasksz_1)
def pcasksz_3 : List BE := ((BE.le (IE.lit 0) (IE.var .i64 2)) :: pcasksz_2)
def pcasksz_4 : List BE := ((BE.le (IE.lit 0) (IE.fn .i64 2 (AL.lst (LE.take (LE.rom 0) (IE.lit 0)) (AL.int .i64 (IE.var .i64 1) AL.nil)))) :: (BE.le (IE.fn .i64 2 (AL.lst (LE.take (LE.rom 0) (IE.lit 0)) (AL.int .i64 (IE.var .i64 1) AL.nil))) (IE.lit 0)) :: (BE.not (BE.le (IE.lit 0) (IE.fn .i64 2 (AL.lst (LE.take (LE.rom 0) (IE.lit 0)) (AL.int .i64 (IE.var .i64 1) AL.nil))))) :: pcasksz_1)
def pcasksz_5 : List BE := ((BE.le (IE.lit 0) (IE.var .i64 2)) :: pcasksz_4)
def pcasksz_6 : List BE := ((BE.le (IE.lit 0) (IE.fn .i64 4 (AL.lst (LE.take (LE.rom 0) (IE.lit 0)) AL.nil))) :: (BE.le (IE.fn .i64 4 (AL.lst (LE.take (LE.rom 0) (IE.lit 0)) AL.nil)) (IE.lit 0)) :: (BE.not (BE.le (IE.lit 6) (IE.var .i64 2))) :: pcasksz_3)
def wasksz_0 : VW := (VW.done ((BE.le (IE.lit 0) (IE.fn .i64 4 (AL.lst (LE.take (LE.rom 0) (IE.lit 0)) AL.nil))) :: (BE.le (IE.fn .i64 4 (AL.lst (LE.take (LE.rom 0) (IE.lit 0)) AL.nil)) (IE.lit 0)) :: (BE.le (IE.lit 6) (IE.var .i64 2)) :: pcasksz_3) (some []))
def wasksz_1 : VW := (VW.done ((BE.fn 5 (AL.lst (LE.take (LE.rom 0) (IE.lit 0)) (AL.int .i64 (IE.var .i64 2) AL.nil))) :: pcasksz_6) (some []))
def wasksz_2 : VW := (VW.done ((BE.not (BE.fn 5 (AL.lst (LE.take (LE.rom 0) (IE.lit 0)) (AL.int .i64 (IE.var .i64 2) AL.nil)))) :: pcasksz_6) (some []))
def wasksz_3 : VW := (VW.done ((BE.le (IE.lit 0) (IE.fn .i64 4 (AL.lst (LE.take (LE.rom 0) (IE.lit 0)) AL.nil))) :: (BE.le (IE.fn .i64 4 (AL.lst (LE.take (LE.rom 0) (IE.lit 0)) AL.nil)) (IE.lit 0)) :: (BE.not (BE.le (IE.lit 0) (IE.var .i64 2))) :: pcasksz_2) (some []))
def wasksz_4 : VW := (VW.done ((BE.le (IE.lit 0) (IE.fn .i64 4 (AL.lst (LE.take (LE.rom 0) (IE.lit 0)) AL.nil))) :: (BE.le (IE.fn .i64 4 (AL.lst (LE.take (LE.rom 0) (IE.lit 0)) AL.nil)) (IE.lit 0)) :: (BE.le (IE.lit 6) (IE.var .i64 2)) :: pcasksz_5) (some [(G.b (BE.lit true) (BE.lit false))]))
def wasksz_5 : VW := (VW.done ((BE.le (IE.lit 0) (IE.fn .i64 4 (AL.lst (LE.take (LE.rom 0) (IE.lit 0)) AL.nil))) :: (BE.le (IE.fn .i64 4 (AL.lst (LE.take (LE.rom 0) (IE.lit 0)) AL.nil)) (IE.lit 0)) :: (BE.not (BE.le (IE.lit 6) (IE.var .i64 2))) :: pcasksz_5) (some [(G.b (BE.lit true) (BE.lit false))]))
def wasksz_6 : VW := (VW.done ((BE.le (IE.lit 0) (IE.fn .i64 4 (AL.lst (LE.take (LE.rom 0) (IE.lit 0)) AL.nil))) :: (BE.le (IE.fn .i64 4 (AL.lst (LE.take (LE.rom 0) (IE.lit 0)) AL.nil)) (IE.lit 0)) :: (BE.not (BE.le (IE.lit 0) (IE.var .i64 2))) :: pcasksz_4) (some [(G.b (BE.lit true) (BE.lit false))]))
def wasksz_7 : VW := (VW.done ((BE.not (BE.fn 4 (AL.lst (LE.take (LE.rom 0) (IE.lit 0)) AL.nil))) :: pcasksz_0) (some []))
def vwasksz : List VW := [wasksz_0, wasksz_1, wasksz_2, wasksz_3, wasksz_4, wasksz_5, wasksz_6, wasksz_7]
end
theorem vcasksz_0 : VD TTasksz (st0 cAsks0) wasksz_0 := by
  intro ρ kn hp
  exact all_nil
theorem vcasksz_1 : VD TTasksz (st0 cAsks0) wasksz_1 := by
  intro ρ kn hp
  exact all_nil
theorem vcasksz_2 : VD TTasksz (st0 cAsks0) wasksz_2 := by
  intro ρ kn hp
  exact all_nil
theorem vcasksz_3 : VD TTasksz (st0 cAsks0) wasksz_3 := by
  intro ρ kn hp
  exact all_nil
theorem vcasksz_4 : VD TTasksz (st0 cAsks0) wasksz_4 := by
  intro ρ kn hp
  have hF : ρ.z.F = hold.Φ := kn.F
  simp only [h_nil, h_cons, d_le, d_eq, d_not, d_var, d_lit, d_cel, d_leq, d_fn, d_and, d_iff, IE.den, LE.den, AL.den, lenV, true_and, and_true, pcasksz_5, pcasksz_4, pcasksz_1, pcasksz_0, hF, pi1, pi2, pi3, pi4, pl2, pb1, pb2, pb3, pb4, pb5, pb6] at hp
  obtain ⟨p1, p2, p3, p4, p5, p6, p7, p8⟩ := hp
  exfalso
  exfalso
  have t0 : (ρ.z.rl 0).take (0 : Int).toNat = [] := rfl
  simp only [t0] at *
  have n0 : ∀ s, clampK .i64 ((findN ([] : LV) s ([] : LV).length : Nat) : Int) = 0 := fun s => rfl
  simp only [n0] at *
  omega
theorem vcasksz_5 : VD TTasksz (st0 cAsks0) wasksz_5 := by
  intro ρ kn hp
  have hF : ρ.z.F = hold.Φ := kn.F
  simp only [h_nil, h_cons, d_le, d_eq, d_not, d_var, d_lit, d_cel, d_leq, d_fn, d_and, d_iff, IE.den, LE.den, AL.den, lenV, true_and, and_true, pcasksz_5, pcasksz_4, pcasksz_1, pcasksz_0, hF, pi1, pi2, pi3, pi4, pl2, pb1, pb2, pb3, pb4, pb5, pb6] at hp
  obtain ⟨p1, p2, p3, p4, p5, p6, p7, p8⟩ := hp
  exfalso
  exfalso
  have t0 : (ρ.z.rl 0).take (0 : Int).toNat = [] := rfl
  simp only [t0] at *
  have n0 : ∀ s, clampK .i64 ((findN ([] : LV) s ([] : LV).length : Nat) : Int) = 0 := fun s => rfl
  simp only [n0] at *
  omega
theorem vcasksz_6 : VD TTasksz (st0 cAsks0) wasksz_6 := by
  intro ρ kn hp
  have hF : ρ.z.F = hold.Φ := kn.F
  simp only [h_nil, h_cons, d_le, d_eq, d_not, d_var, d_lit, d_cel, d_leq, d_fn, d_and, d_iff, IE.den, LE.den, AL.den, lenV, true_and, and_true, pcasksz_4, pcasksz_1, pcasksz_0, hF, pi1, pi2, pi3, pi4, pl2, pb1, pb2, pb3, pb4, pb5, pb6] at hp
  obtain ⟨p1, p2, p3, p4, p5, p6, p7⟩ := hp
  exfalso
  exfalso
  have t0 : (ρ.z.rl 0).take (0 : Int).toNat = [] := rfl
  simp only [t0] at *
  have n0 : ∀ s, clampK .i64 ((findN ([] : LV) s ([] : LV).length : Nat) : Int) = 0 := fun s => rfl
  simp only [n0] at *
  omega
theorem vcasksz_7 : VD TTasksz (st0 cAsks0) wasksz_7 := by
  intro ρ kn hp
  exact all_nil
theorem told_asksz : Sx.Told hold.Φ cAsks0 := told_vw (cs := [cWorks, cRightP, cRightR, cFindIn, cFindOut, cFindN, cFitsA, cWrites, cM86, cM86z, cM51, cM51z, cRF0, cRFin, cRFout, cRFits, cRight03]) (all_cons told_works (all_cons told_rightP (all_cons told_rightR (all_cons told_findIn (all_cons told_findOut (all_cons told_findN (all_cons told_fitsA (all_cons told_wri (all_cons told_m86 (all_cons told_m86z (all_cons told_m51 (all_cons told_m51z (all_cons told_rf0 (all_cons told_rfin (all_cons told_rfout (all_cons told_rfits (all_cons told_right03 (all_nil)))))))))))))))))) 20000 vwasksz (by kernel_rfl) (by kernel_rfl) (by kernel_rfl) (post_nil rfl) (by kernel_rfl) (by kernel_rfl) (all_cons vcasksz_0 (all_cons vcasksz_1 (all_cons vcasksz_2 (all_cons vcasksz_3 (all_cons vcasksz_4 (all_cons vcasksz_5 (all_cons vcasksz_6 (all_cons vcasksz_7 (all_nil)))))))))
theorem told_asks0 : Sx.Told Φ cAsks0 := told_asksz
noncomputable section
abbrev TTasks : Tab := T hold.Φ cAsks.roms [cWorks, cRightP, cRightR, cFindIn, cFindOut, cFindN, cFitsA, cWrites, cM86, cM86z, cM51, cM51z, cRF0, cRFin, cRFout, cRFits, cRight03]
def tasks1 : Cfg := { top := ⟨11, over (opqS 10000 164) [(0, (SV.rom 0 (IE.lit 0) (IE.len (LE.rom 0)) none)), (1, (SV.int .i64 (IE.var .i64 1))), (2, (SV.int .i64 (IE.var .i64 2))), (7, (SV.ptr 0 0)), (8, (SV.bool (BE.var 1006))), (9, (SV.bool (BE.var 1004))), (10, (SV.int .i64 (IE.var .i64 1005))), (11, (SV.ptr 5 0)), (12, (SV.bool (BE.var 1000))), (13, (SV.sll 6 7 1 (IE.lit 0) (IE.len (LE.fn 2 (AL.lst (LE.rom 0) AL.nil))) none)), (14, (SV.sll 8 9 1 (IE.lit 0) (IE.len (LE.fn 2 (AL.lst (LE.rom 0) AL.nil))) none)), (15, (SV.int .i64 (IE.var .i64 1010))), (16, (SV.int .i64 (IE.var .i64 1011)))], ogt (loopTodo (bodyOf (T hold.Φ [] []) 11) 0), [], false, none⟩, rest := [], heap := [(0, .cells [(SV.int .i64 (IE.var .i64 1007)), (SV.int .i64 (IE.var .i64 1008)), (SV.int .i64 (IE.var .i64 1009))] 68), (5, .cells [(SV.int .i64 (IE.var .i64 1001)), (SV.int .i64 (IE.var .i64 1002)), (SV.int .i64 (IE.var .i64 1003))] 68), (6, .rowl (LE.fn 2 (AL.lst (LE.rom 0) AL.nil)) (IE.len (LE.fn 2 (AL.lst (LE.rom 0) AL.nil))) [(CK.int .i64)] 23 7 1), (8, .rowl (LE.fn 2 (AL.lst (LE.rom 0) AL.nil)) (IE.len (LE.fn 2 (AL.lst (LE.rom 0) AL.nil))) [(CK.int .i64)] 23 9 1)], next := 10, pc := .lit true :: ([.le (.lit 0) (.var .i64 1011), .le (.var .i64 1011) (ln 0), .le (.lit (-1)) (.var .i64 1010), .not (.le (ln 0) (.var .i64 1010))] ++ [(BE.le (IE.lit 1) (IE.len (LE.rom 0))), (BE.le (IE.len (LE.rom 0)) (IE.lit 300)), (BE.fn 4 (AL.lst (LE.rom 0) AL.nil)), (BE.le (IE.fn .i64 4 (AL.lst (LE.rom 0) AL.nil)) (IE.len (LE.rom 0))), (BE.le (IE.lit 0) (IE.fn .i64 4 (AL.lst (LE.rom 0) AL.nil))), (BE.eq (IE.len (LE.fn 2 (AL.lst (LE.rom 0) AL.nil))) (IE.len (LE.rom 0))), (BE.eq (IE.len (LE.fn 2 (AL.lst (LE.rom 0) AL.nil))) (IE.len (LE.rom 0))), (BE.le (IE.lit 0) (IE.var .i64 1005)), (BE.not (BE.le (IE.len (LE.rom 0)) (IE.var .i64 1010))), (BE.le (IE.lit 0) (IE.var .i64 1011)), (BE.le (IE.var .i64 1011) (IE.len (LE.rom 0)))]) }
def tmasks : List (Nat × Cfg) := [(0, startF 11 cAsks.pat (.lit true :: cAsks.pre)), (1, tasks1)]
def selasks : Sel := [(11, 1, 0, 1)]
def pcasks0_0 : List BE := [(BE.lit true), (BE.le (IE.lit 1) (IE.len (LE.rom 0)))]
def pcasks0_1 : List BE := ((BE.le (IE.len (LE.rom 0)) (IE.lit 300)) :: pcasks0_0)
def pcasks0_2 : List BE := ((BE.fn 4 (AL.lst (LE.rom 0) AL.nil)) :: pcasks0_1)
def pcasks0_3 : List BE := ((BE.le (IE.len (LE.rom 0)) (IE.fn .i64 2 (AL.lst (LE.rom 0) (AL.int .i64 (IE.var .i64 1) AL.nil)))) :: pcasks0_2)
def pcasks0_4 : List BE := ((BE.le (IE.lit 0) (IE.var .i64 2)) :: pcasks0_3)
def pcasks0_5 : List BE := ((BE.le (IE.lit 0) (IE.fn .i64 2 (AL.lst (LE.rom 0) (AL.int .i64 (IE.var .i64 1) AL.nil)))) :: (BE.le (IE.fn .i64 2 (AL.lst (LE.rom 0) (AL.int .i64 (IE.var .i64 1) AL.nil))) (IE.len (LE.rom 0))) :: (BE.not (BE.le (IE.len (LE.rom 0)) (IE.fn .i64 2 (AL.lst (LE.rom 0) (AL.int .i64 (IE.var .i64 1) AL.nil))))) :: pcasks0_2)
def pcasks0_6 : List BE := ((BE.le (IE.lit 0) (IE.fn .i64 4 (AL.lst (LE.rom 0) AL.nil))) :: (BE.le (IE.fn .i64 4 (AL.lst (LE.rom 0) AL.nil)) (IE.len (LE.rom 0))) :: (BE.not (BE.le (IE.lit 0) (IE.var .i64 2))) :: pcasks0_3)
def pcasks0_7 : List BE := ((BE.le (IE.lit 0) (IE.var .i64 2)) :: pcasks0_5)
def pcasks0_8 : List BE := ((BE.le (IE.lit 0) (IE.fn .i64 4 (AL.lst (LE.rom 0) AL.nil))) :: (BE.le (IE.fn .i64 4 (AL.lst (LE.rom 0) AL.nil)) (IE.len (LE.rom 0))) :: (BE.le (IE.lit 6) (IE.var .i64 2)) :: pcasks0_4)
def pcasks0_9 : List BE := ((BE.le (IE.lit 0) (IE.fn .i64 4 (AL.lst (LE.rom 0) AL.nil))) :: (BE.le (IE.fn .i64 4 (AL.lst (LE.rom 0) AL.nil)) (IE.len (LE.rom 0))) :: (BE.not (BE.le (IE.lit 6) (IE.var .i64 2))) :: pcasks0_4)
def pcasks0_10 : List BE := ((BE.le (IE.lit 0) (IE.fn .i64 4 (AL.lst (LE.rom 0) AL.nil))) :: (BE.le (IE.fn .i64 4 (AL.lst (LE.rom 0) AL.nil)) (IE.len (LE.rom 0))) :: (BE.not (BE.le (IE.lit 0) (IE.var .i64 2))) :: pcasks0_5)
def pcasks0_11 : List BE := ((BE.le (IE.lit 0) (IE.fn .i64 4 (AL.lst (LE.rom 0) AL.nil))) :: (BE.le (IE.fn .i64 4 (AL.lst (LE.rom 0) AL.nil)) (IE.len (LE.rom 0))) :: (BE.le (IE.lit 6) (IE.var .i64 2)) :: pcasks0_7)
def pcasks0_12 : List BE := ((BE.le (IE.lit 0) (IE.fn .i64 4 (AL.lst (LE.rom 0) AL.nil))) :: (BE.le (IE.fn .i64 4 (AL.lst (LE.rom 0) AL.nil)) (IE.len (LE.rom 0))) :: (BE.not (BE.le (IE.lit 6) (IE.var .i64 2))) :: pcasks0_7)
def wasks0_0 : VW := (VW.cut 1 ((BE.eq (IE.len (LE.fn 2 (AL.lst (LE.rom 0) AL.nil))) (IE.len (LE.rom 0))) :: (BE.eq (IE.len (LE.fn 2 (AL.lst (LE.rom 0) AL.nil))) (IE.len (LE.rom 0))) :: (BE.le (IE.len (LE.rom 0)) (IE.fn .i64 4 (AL.lst (LE.rom 0) AL.nil))) :: pcasks0_8) (Sx.Sub.mk [(.i64, (1003, (IE.lit 0))), (.i64, (1002, (IE.lit 0))), (.i64, (1001, (IE.lit 0))), (.i64, (1009, (IE.lit 0))), (.i64, (1008, (IE.lit 0))), (.i64, (1007, (IE.lit 0))), (.i64, (1011, (IE.lit 0))), (.i64, (1010, (IE.lit (-1)))), (.i64, (1005, (IE.lit 2)))] [(1000, (BE.lit false)), (1004, (BE.lit false)), (1006, (BE.lit false))] [] [] [] []))
def wasks0_1 : VW := (VW.cut 1 ((BE.eq (IE.len (LE.fn 2 (AL.lst (LE.rom 0) AL.nil))) (IE.len (LE.rom 0))) :: (BE.eq (IE.len (LE.fn 2 (AL.lst (LE.rom 0) AL.nil))) (IE.len (LE.rom 0))) :: (BE.not (BE.le (IE.len (LE.rom 0)) (IE.fn .i64 4 (AL.lst (LE.rom 0) AL.nil)))) :: pcasks0_8) (Sx.Sub.mk [(.i64, (1003, (IE.cel .i64 (LE.rom 0) (IE.fn .i64 4 (AL.lst (LE.rom 0) AL.nil)) 2))), (.i64, (1002, (IE.cel .i64 (LE.rom 0) (IE.fn .i64 4 (AL.lst (LE.rom 0) AL.nil)) 1))), (.i64, (1001, (IE.cel .i64 (LE.rom 0) (IE.fn .i64 4 (AL.lst (LE.rom 0) AL.nil)) 0))), (.i64, (1009, (IE.lit 0))), (.i64, (1008, (IE.lit 0))), (.i64, (1007, (IE.lit 0))), (.i64, (1011, (IE.lit 0))), (.i64, (1010, (IE.lit (-1)))), (.i64, (1005, (IE.lit 2)))] [(1000, (BE.lit true)), (1004, (BE.lit false)), (1006, (BE.lit false))] [] [] [] []))
def wasks0_2 : VW := (VW.cut 1 ((BE.eq (IE.len (LE.fn 2 (AL.lst (LE.rom 0) AL.nil))) (IE.len (LE.rom 0))) :: (BE.eq (IE.len (LE.fn 2 (AL.lst (LE.rom 0) AL.nil))) (IE.len (LE.rom 0))) :: (BE.le (IE.len (LE.rom 0)) (IE.fn .i64 4 (AL.lst (LE.rom 0) AL.nil))) :: pcasks0_9) (Sx.Sub.mk [(.i64, (1003, (IE.lit 0))), (.i64, (1002, (IE.lit 0))), (.i64, (1001, (IE.lit 0))), (.i64, (1009, (IE.lit 0))), (.i64, (1008, (IE.lit 0))), (.i64, (1007, (IE.lit 0))), (.i64, (1011, (IE.lit 0))), (.i64, (1010, (IE.lit (-1)))), (.i64, (1005, (IE.lit 0)))] [(1000, (BE.lit false)), (1004, (BE.fn 5 (AL.lst (LE.rom 0) (AL.int .i64 (IE.var .i64 2) AL.nil)))), (1006, (BE.lit false))] [] [] [] []))
def wasks0_3 : VW := (VW.cut 1 ((BE.eq (IE.len (LE.fn 2 (AL.lst (LE.rom 0) AL.nil))) (IE.len (LE.rom 0))) :: (BE.eq (IE.len (LE.fn 2 (AL.lst (LE.rom 0) AL.nil))) (IE.len (LE.rom 0))) :: (BE.not (BE.le (IE.len (LE.rom 0)) (IE.fn .i64 4 (AL.lst (LE.rom 0) AL.nil)))) :: pcasks0_9) (Sx.Sub.mk [(.i64, (1003, (IE.cel .i64 (LE.rom 0) (IE.fn .i64 4 (AL.lst (LE.rom 0) AL.nil)) 2))), (.i64, (1002, (IE.cel .i64 (LE.rom 0) (IE.fn .i64 4 (AL.lst (LE.rom 0) AL.nil)) 1))), (.i64, (1001, (IE.cel .i64 (LE.rom 0) (IE.fn .i64 4 (AL.lst (LE.rom 0) AL.nil)) 0))), (.i64, (1009, (IE.lit 0))), (.i64, (1008, (IE.lit 0))), (.i64, (1007, (IE.lit 0))), (.i64, (1011, (IE.lit 0))), (.i64, (1010, (IE.lit (-1)))), (.i64, (1005, (IE.lit 0)))] [(1000, (BE.lit true)), (1004, (BE.fn 5 (AL.lst (LE.rom 0) (AL.int .i64 (IE.var .i64 2) AL.nil)))), (1006, (BE.lit false))] [] [] [] []))
def wasks0_4 : VW := (VW.cut 1 ((BE.eq (IE.len (LE.fn 2 (AL.lst (LE.rom 0) AL.nil))) (IE.len (LE.rom 0))) :: (BE.eq (IE.len (LE.fn 2 (AL.lst (LE.rom 0) AL.nil))) (IE.len (LE.rom 0))) :: (BE.le (IE.len (LE.rom 0)) (IE.fn .i64 4 (AL.lst (LE.rom 0) AL.nil))) :: pcasks0_6) (Sx.Sub.mk [(.i64, (1003, (IE.lit 0))), (.i64, (1002, (IE.lit 0))), (.i64, (1001, (IE.lit 0))), (.i64, (1009, (IE.lit 0))), (.i64, (1008, (IE.lit 0))), (.i64, (1007, (IE.lit 0))), (.i64, (1011, (IE.lit 0))), (.i64, (1010, (IE.lit (-1)))), (.i64, (1005, (IE.lit 2)))] [(1000, (BE.lit false)), (1004, (BE.lit false)), (1006, (BE.lit false))] [] [] [] []))
def wasks0_5 : VW := (VW.cut 1 ((BE.eq (IE.len (LE.fn 2 (AL.lst (LE.rom 0) AL.nil))) (IE.len (LE.rom 0))) :: (BE.eq (IE.len (LE.fn 2 (AL.lst (LE.rom 0) AL.nil))) (IE.len (LE.rom 0))) :: (BE.not (BE.le (IE.len (LE.rom 0)) (IE.fn .i64 4 (AL.lst (LE.rom 0) AL.nil)))) :: pcasks0_6) (Sx.Sub.mk [(.i64, (1003, (IE.cel .i64 (LE.rom 0) (IE.fn .i64 4 (AL.lst (LE.rom 0) AL.nil)) 2))), (.i64, (1002, (IE.cel .i64 (LE.rom 0) (IE.fn .i64 4 (AL.lst (LE.rom 0) AL.nil)) 1))), (.i64, (1001, (IE.cel .i64 (LE.rom 0) (IE.fn .i64 4 (AL.lst (LE.rom 0) AL.nil)) 0))), (.i64, (1009, (IE.lit 0))), (.i64, (1008, (IE.lit 0))), (.i64, (1007, (IE.lit 0))), (.i64, (1011, (IE.lit 0))), (.i64, (1010, (IE.lit (-1)))), (.i64, (1005, (IE.lit 2)))] [(1000, (BE.lit true)), (1004, (BE.lit false)), (1006, (BE.lit false))] [] [] [] []))
def wasks0_6 : VW := (VW.cut 1 ((BE.eq (IE.len (LE.fn 2 (AL.lst (LE.rom 0) AL.nil))) (IE.len (LE.rom 0))) :: (BE.eq (IE.len (LE.fn 2 (AL.lst (LE.rom 0) AL.nil))) (IE.len (LE.rom 0))) :: (BE.le (IE.len (LE.rom 0)) (IE.fn .i64 4 (AL.lst (LE.rom 0) AL.nil))) :: pcasks0_11) (Sx.Sub.mk [(.i64, (1003, (IE.lit 0))), (.i64, (1002, (IE.lit 0))), (.i64, (1001, (IE.lit 0))), (.i64, (1009, (IE.cel .i64 (LE.rom 0) (IE.fn .i64 2 (AL.lst (LE.rom 0) (AL.int .i64 (IE.var .i64 1) AL.nil))) 2))), (.i64, (1008, (IE.cel .i64 (LE.rom 0) (IE.fn .i64 2 (AL.lst (LE.rom 0) (AL.int .i64 (IE.var .i64 1) AL.nil))) 1))), (.i64, (1007, (IE.cel .i64 (LE.rom 0) (IE.fn .i64 2 (AL.lst (LE.rom 0) (AL.int .i64 (IE.var .i64 1) AL.nil))) 0))), (.i64, (1011, (IE.lit 0))), (.i64, (1010, (IE.lit (-1)))), (.i64, (1005, (IE.lit 2)))] [(1000, (BE.lit false)), (1004, (BE.lit false)), (1006, (BE.lit true))] [] [] [] []))
def wasks0_7 : VW := (VW.cut 1 ((BE.eq (IE.len (LE.fn 2 (AL.lst (LE.rom 0) AL.nil))) (IE.len (LE.rom 0))) :: (BE.eq (IE.len (LE.fn 2 (AL.lst (LE.rom 0) AL.nil))) (IE.len (LE.rom 0))) :: (BE.not (BE.le (IE.len (LE.rom 0)) (IE.fn .i64 4 (AL.lst (LE.rom 0) AL.nil)))) :: pcasks0_11) (Sx.Sub.mk [(.i64, (1003, (IE.cel .i64 (LE.rom 0) (IE.fn .i64 4 (AL.lst (LE.rom 0) AL.nil)) 2))), (.i64, (1002, (IE.cel .i64 (LE.rom 0) (IE.fn .i64 4 (AL.lst (LE.rom 0) AL.nil)) 1))), (.i64, (1001, (IE.cel .i64 (LE.rom 0) (IE.fn .i64 4 (AL.lst (LE.rom 0) AL.nil)) 0))), (.i64, (1009, (IE.cel .i64 (LE.rom 0) (IE.fn .i64 2 (AL.lst (LE.rom 0) (AL.int .i64 (IE.var .i64 1) AL.nil))) 2))), (.i64, (1008, (IE.cel .i64 (LE.rom 0) (IE.fn .i64 2 (AL.lst (LE.rom 0) (AL.int .i64 (IE.var .i64 1) AL.nil))) 1))), (.i64, (1007, (IE.cel .i64 (LE.rom 0) (IE.fn .i64 2 (AL.lst (LE.rom 0) (AL.int .i64 (IE.var .i64 1) AL.nil))) 0))), (.i64, (1011, (IE.lit 0))), (.i64, (1010, (IE.lit (-1)))), (.i64, (1005, (IE.lit 2)))] [(1000, (BE.lit true)), (1004, (BE.lit false)), (1006, (BE.lit true))] [] [] [] []))
def wasks0_8 : VW := (VW.cut 1 ((BE.eq (IE.len (LE.fn 2 (AL.lst (LE.rom 0) AL.nil))) (IE.len (LE.rom 0))) :: (BE.eq (IE.len (LE.fn 2 (AL.lst (LE.rom 0) AL.nil))) (IE.len (LE.rom 0))) :: (BE.le (IE.len (LE.rom 0)) (IE.fn .i64 4 (AL.lst (LE.rom 0) AL.nil))) :: pcasks0_12) (Sx.Sub.mk [(.i64, (1003, (IE.lit 0))), (.i64, (1002, (IE.lit 0))), (.i64, (1001, (IE.lit 0))), (.i64, (1009, (IE.cel .i64 (LE.rom 0) (IE.fn .i64 2 (AL.lst (LE.rom 0) (AL.int .i64 (IE.var .i64 1) AL.nil))) 2))), (.i64, (1008, (IE.cel .i64 (LE.rom 0) (IE.fn .i64 2 (AL.lst (LE.rom 0) (AL.int .i64 (IE.var .i64 1) AL.nil))) 1))), (.i64, (1007, (IE.cel .i64 (LE.rom 0) (IE.fn .i64 2 (AL.lst (LE.rom 0) (AL.int .i64 (IE.var .i64 1) AL.nil))) 0))), (.i64, (1011, (IE.lit 0))), (.i64, (1010, (IE.lit (-1)))), (.i64, (1005, (IE.lit 0)))] [(1000, (BE.lit false)), (1004, (BE.fn 5 (AL.lst (LE.rom 0) (AL.int .i64 (IE.var .i64 2) AL.nil)))), (1006, (BE.lit true))] [] [] [] []))
def wasks0_9 : VW := (VW.cut 1 ((BE.eq (IE.len (LE.fn 2 (AL.lst (LE.rom 0) AL.nil))) (IE.len (LE.rom 0))) :: (BE.eq (IE.len (LE.fn 2 (AL.lst (LE.rom 0) AL.nil))) (IE.len (LE.rom 0))) :: (BE.not (BE.le (IE.len (LE.rom 0)) (IE.fn .i64 4 (AL.lst (LE.rom 0) AL.nil)))) :: pcasks0_12) (Sx.Sub.mk [(.i64, (1003, (IE.cel .i64 (LE.rom 0) (IE.fn .i64 4 (AL.lst (LE.rom 0) AL.nil)) 2))), (.i64, (1002, (IE.cel .i64 (LE.rom 0) (IE.fn .i64 4 (AL.lst (LE.rom 0) AL.nil)) 1))), (.i64, (1001, (IE.cel .i64 (LE.rom 0) (IE.fn .i64 4 (AL.lst (LE.rom 0) AL.nil)) 0))), (.i64, (1009, (IE.cel .i64 (LE.rom 0) (IE.fn .i64 2 (AL.lst (LE.rom 0) (AL.int .i64 (IE.var .i64 1) AL.nil))) 2))), (.i64, (1008, (IE.cel .i64 (LE.rom 0) (IE.fn .i64 2 (AL.lst (LE.rom 0) (AL.int .i64 (IE.var .i64 1) AL.nil))) 1))), (.i64, (1007, (IE.cel .i64 (LE.rom 0) (IE.fn .i64 2 (AL.lst (LE.rom 0) (AL.int .i64 (IE.var .i64 1) AL.nil))) 0))), (.i64, (1011, (IE.lit 0))), (.i64, (1010, (IE.lit (-1)))), (.i64, (1005, (IE.lit 0)))] [(1000, (BE.lit true)), (1004, (BE.fn 5 (AL.lst (LE.rom 0) (AL.int .i64 (IE.var .i64 2) AL.nil)))), (1006, (BE.lit true))] [] [] [] []))
def wasks0_10 : VW := (VW.cut 1 ((BE.eq (IE.len (LE.fn 2 (AL.lst (LE.rom 0) AL.nil))) (IE.len (LE.rom 0))) :: (BE.eq (IE.len (LE.fn 2 (AL.lst (LE.rom 0) AL.nil))) (IE.len (LE.rom 0))) :: (BE.le (IE.len (LE.rom 0)) (IE.fn .i64 4 (AL.lst (LE.rom 0) AL.nil))) :: pcasks0_10) (Sx.Sub.mk [(.i64, (1003, (IE.lit 0))), (.i64, (1002, (IE.lit 0))), (.i64, (1001, (IE.lit 0))), (.i64, (1009, (IE.cel .i64 (LE.rom 0) (IE.fn .i64 2 (AL.lst (LE.rom 0) (AL.int .i64 (IE.var .i64 1) AL.nil))) 2))), (.i64, (1008, (IE.cel .i64 (LE.rom 0) (IE.fn .i64 2 (AL.lst (LE.rom 0) (AL.int .i64 (IE.var .i64 1) AL.nil))) 1))), (.i64, (1007, (IE.cel .i64 (LE.rom 0) (IE.fn .i64 2 (AL.lst (LE.rom 0) (AL.int .i64 (IE.var .i64 1) AL.nil))) 0))), (.i64, (1011, (IE.lit 0))), (.i64, (1010, (IE.lit (-1)))), (.i64, (1005, (IE.lit 2)))] [(1000, (BE.lit false)), (1004, (BE.lit false)), (1006, (BE.lit true))] [] [] [] []))
def wasks0_11 : VW := (VW.cut 1 ((BE.eq (IE.len (LE.fn 2 (AL.lst (LE.rom 0) AL.nil))) (IE.len (LE.rom 0))) :: (BE.eq (IE.len (LE.fn 2 (AL.lst (LE.rom 0) AL.nil))) (IE.len (LE.rom 0))) :: (BE.not (BE.le (IE.len (LE.rom 0)) (IE.fn .i64 4 (AL.lst (LE.rom 0) AL.nil)))) :: pcasks0_10) (Sx.Sub.mk [(.i64, (1003, (IE.cel .i64 (LE.rom 0) (IE.fn .i64 4 (AL.lst (LE.rom 0) AL.nil)) 2))), (.i64, (1002, (IE.cel .i64 (LE.rom 0) (IE.fn .i64 4 (AL.lst (LE.rom 0) AL.nil)) 1))), (.i64, (1001, (IE.cel .i64 (LE.rom 0) (IE.fn .i64 4 (AL.lst (LE.rom 0) AL.nil)) 0))), (.i64, (1009, (IE.cel .i64 (LE.rom 0) (IE.fn .i64 2 (AL.lst (LE.rom 0) (AL.int .i64 (IE.var .i64 1) AL.nil))) 2))), (.i64, (1008, (IE.cel .i64 (LE.rom 0) (IE.fn .i64 2 (AL.lst (LE.rom 0) (AL.int .i64 (IE.var .i64 1) AL.nil))) 1))), (.i64, (1007, (IE.cel .i64 (LE.rom 0) (IE.fn .i64 2 (AL.lst (LE.rom 0) (AL.int .i64 (IE.var .i64 1) AL.nil))) 0))), (.i64, (1011, (IE.lit 0))), (.i64, (1010, (IE.lit (-1)))), (.i64, (1005, (IE.lit 2)))] [(1000, (BE.lit true)), (1004, (BE.lit false)), (1006, (BE.lit true))] [] [] [] []))
def wasks0_12 : VW := (VW.done ((BE.not (BE.fn 4 (AL.lst (LE.rom 0) AL.nil))) :: pcasks0_1) (some []))
def wasks0_13 : VW := (VW.done ((BE.not (BE.le (IE.len (LE.rom 0)) (IE.lit 300))) :: pcasks0_0) (some []))
def vwasks0 : List VW := [wasks0_0, wasks0_1, wasks0_2, wasks0_3, wasks0_4, wasks0_5, wasks0_6, wasks0_7, wasks0_8, wasks0_9, wasks0_10, wasks0_11, wasks0_12, wasks0_13]
def pcasks1_0 : List BE := [(BE.lit true), (BE.le (IE.lit 0) (IE.var .i64 1011)), (BE.le (IE.var .i64 1011) (IE.len (LE.rom 0))), (BE.le (IE.lit (-1)) (IE.var .i64 1010)), (BE.not (BE.le (IE.len (LE.rom 0)) (IE.var .i64 1010))), (BE.le (IE.lit 1) (IE.len (LE.rom 0))), (BE.le (IE.len (LE.rom 0)) (IE.lit 300)), (BE.fn 4 (AL.lst (LE.rom 0) AL.nil)), (BE.le (IE.fn .i64 4 (AL.lst (LE.rom 0) AL.nil)) (IE.len (LE.rom 0))), (BE.le (IE.lit 0) (IE.fn .i64 4 (AL.lst (LE.rom 0) AL.nil))), (BE.eq (IE.len (LE.fn 2 (AL.lst (LE.rom 0) AL.nil))) (IE.len (LE.rom 0))), (BE.eq (IE.len (LE.fn 2 (AL.lst (LE.rom 0) AL.nil))) (IE.len (LE.rom 0))), (BE.le (IE.lit 0) (IE.var .i64 1005)), (BE.not (BE.le (IE.len (LE.rom 0)) (IE.var .i64 1010))), (BE.le (IE.lit 0) (IE.var .i64 1011)), (BE.le (IE.var .i64 1011) (IE.len (LE.rom 0)))]
def pcasks1_1 : List BE := ((BE.le (IE.len (LE.fn 2 (AL.lst (LE.rom 0) AL.nil))) (IE.var .i64 1011)) :: pcasks1_0)
def pcasks1_2 : List BE := ((BE.not (BE.le (IE.len (LE.fn 2 (AL.lst (LE.rom 0) AL.nil))) (IE.var .i64 1011))) :: pcasks1_0)
def pcasks1_3 : List BE := ((BE.var 1000) :: pcasks1_1)
def pcasks1_4 : List BE := ((BE.not (BE.var 1000)) :: pcasks1_1)
def pcasks1_5 : List BE := ((BE.le (IE.lit 0) (IE.var .i64 1010)) :: pcasks1_3)
def pcasks1_6 : List BE := ((BE.not (BE.le (IE.lit 0) (IE.var .i64 1010))) :: pcasks1_4)
def pcasks1_7 : List BE := ((BE.eq (IE.var .i64 1001) (IE.cel .i64 (LE.rom 0) (IE.var .i64 1010) 0)) :: pcasks1_5)
def pcasks1_8 : List BE := ((BE.le (IE.len (LE.rom 0)) (IE.fn .i64 2 (AL.lst (LE.rom 0) (AL.int .i64 (IE.var .i64 1) AL.nil)))) :: pcasks1_6)
def pcasks1_9 : List BE := ((BE.eq (IE.var .i64 1002) (IE.cel .i64 (LE.rom 0) (IE.var .i64 1010) 1)) :: pcasks1_7)
def pcasks1_10 : List BE := ((BE.not (BE.var 1006)) :: pcasks1_8)
def pcasks1_11 : List BE := ((BE.eq (IE.var .i64 1003) (IE.cel .i64 (LE.rom 0) (IE.var .i64 1010) 2)) :: pcasks1_9)
def pcasks1_12 : List BE := ((BE.le (IE.lit 0) (IE.var .i64 2)) :: pcasks1_10)
def pcasks1_13 : List BE := ((BE.not (BE.le (IE.lit 0) (IE.var .i64 2))) :: pcasks1_10)
def pcasks1_14 : List BE := ((BE.le (IE.lit 0) (IE.fn .i64 2 (AL.lst (LE.rom 0) (AL.int .i64 (IE.var .i64 1) AL.nil)))) :: (BE.le (IE.fn .i64 2 (AL.lst (LE.rom 0) (AL.int .i64 (IE.var .i64 1) AL.nil))) (IE.len (LE.rom 0))) :: (BE.not (BE.le (IE.len (LE.rom 0)) (IE.fn .i64 2 (AL.lst (LE.rom 0) (AL.int .i64 (IE.var .i64 1) AL.nil))))) :: pcasks1_6)
def pcasks1_15 : List BE := ((BE.le (IE.len (LE.rom 0)) (IE.fn .i64 2 (AL.lst (LE.rom 0) (AL.int .i64 (IE.var .i64 1) AL.nil)))) :: pcasks1_11)
def pcasks1_16 : List BE := ((BE.le (IE.var .i64 2) (IE.lit 5)) :: pcasks1_12)
def pcasks1_17 : List BE := ((BE.not (BE.le (IE.var .i64 2) (IE.lit 5))) :: pcasks1_12)
def pcasks1_18 : List BE := ((BE.not (BE.var 1004)) :: pcasks1_13)
def pcasks1_19 : List BE := ((BE.var 1006) :: pcasks1_14)
def pcasks1_20 : List BE := ((BE.not (BE.var 1006)) :: pcasks1_15)
def pcasks1_21 : List BE := ((BE.var 1004) :: pcasks1_16)
def pcasks1_22 : List BE := ((BE.not (BE.var 1004)) :: pcasks1_16)
def pcasks1_23 : List BE := ((BE.not (BE.var 1004)) :: pcasks1_17)
def pcasks1_24 : List BE := ((BE.eq (IE.var .i64 1007) (IE.cel .i64 (LE.rom 0) (IE.fn .i64 2 (AL.lst (LE.rom 0) (AL.int .i64 (IE.var .i64 1) AL.nil))) 0)) :: pcasks1_19)
def pcasks1_25 : List BE := ((BE.le (IE.lit 0) (IE.var .i64 2)) :: pcasks1_20)
def pcasks1_26 : List BE := ((BE.not (BE.le (IE.lit 0) (IE.var .i64 2))) :: pcasks1_20)
def pcasks1_27 : List BE := ((BE.le (IE.lit 0) (IE.fn .i64 2 (AL.lst (LE.rom 0) (AL.int .i64 (IE.var .i64 1) AL.nil)))) :: (BE.le (IE.fn .i64 2 (AL.lst (LE.rom 0) (AL.int .i64 (IE.var .i64 1) AL.nil))) (IE.len (LE.rom 0))) :: (BE.not (BE.le (IE.len (LE.rom 0)) (IE.fn .i64 2 (AL.lst (LE.rom 0) (AL.int .i64 (IE.var .i64 1) AL.nil))))) :: pcasks1_11)
def pcasks1_28 : List BE := ((BE.fn 5 (AL.lst (LE.rom 0) (AL.int .i64 (IE.var .i64 2) AL.nil))) :: pcasks1_21)
def pcasks1_29 : List BE := ((BE.not (BE.fn 5 (AL.lst (LE.rom 0) (AL.int .i64 (IE.var .i64 2) AL.nil)))) :: pcasks1_22)
def pcasks1_30 : List BE := ((BE.eq (IE.var .i64 1008) (IE.cel .i64 (LE.rom 0) (IE.fn .i64 2 (AL.lst (LE.rom 0) (AL.int .i64 (IE.var .i64 1) AL.nil))) 1)) :: pcasks1_24)
def pcasks1_31 : List BE := ((BE.le (IE.var .i64 2) (IE.lit 5)) :: pcasks1_25)
def pcasks1_32 : List BE := ((BE.not (BE.le (IE.var .i64 2) (IE.lit 5))) :: pcasks1_25)
def pcasks1_33 : List BE := ((BE.not (BE.var 1004)) :: pcasks1_26)
def pcasks1_34 : List BE := ((BE.var 1006) :: pcasks1_27)
def pcasks1_35 : List BE := ((BE.eq (IE.var .i64 1009) (IE.cel .i64 (LE.rom 0) (IE.fn .i64 2 (AL.lst (LE.rom 0) (AL.int .i64 (IE.var .i64 1) AL.nil))) 2)) :: pcasks1_30)
def pcasks1_36 : List BE := ((BE.var 1004) :: pcasks1_31)
def pcasks1_37 : List BE := ((BE.not (BE.var 1004)) :: pcasks1_31)
def pcasks1_38 : List BE := ((BE.not (BE.var 1004)) :: pcasks1_32)
def pcasks1_39 : List BE := ((BE.eq (IE.var .i64 1007) (IE.cel .i64 (LE.rom 0) (IE.fn .i64 2 (AL.lst (LE.rom 0) (AL.int .i64 (IE.var .i64 1) AL.nil))) 0)) :: pcasks1_34)
def pcasks1_40 : List BE := ((BE.le (IE.lit 0) (IE.var .i64 2)) :: pcasks1_35)
def pcasks1_41 : List BE := ((BE.not (BE.le (IE.lit 0) (IE.var .i64 2))) :: pcasks1_35)
def pcasks1_42 : List BE := ((BE.fn 5 (AL.lst (LE.rom 0) (AL.int .i64 (IE.var .i64 2) AL.nil))) :: pcasks1_36)
def pcasks1_43 : List BE := ((BE.not (BE.fn 5 (AL.lst (LE.rom 0) (AL.int .i64 (IE.var .i64 2) AL.nil)))) :: pcasks1_37)
def pcasks1_44 : List BE := ((BE.eq (IE.var .i64 1008) (IE.cel .i64 (LE.rom 0) (IE.fn .i64 2 (AL.lst (LE.rom 0) (AL.int .i64 (IE.var .i64 1) AL.nil))) 1)) :: pcasks1_39)
def pcasks1_45 : List BE := ((BE.le (IE.var .i64 2) (IE.lit 5)) :: pcasks1_40)
def pcasks1_46 : List BE := ((BE.not (BE.le (IE.var .i64 2) (IE.lit 5))) :: pcasks1_40)
def pcasks1_47 : List BE := ((BE.not (BE.var 1004)) :: pcasks1_41)
def pcasks1_48 : List BE := ((BE.eq (IE.var .i64 1009) (IE.cel .i64 (LE.rom 0) (IE.fn .i64 2 (AL.lst (LE.rom 0) (AL.int .i64 (IE.var .i64 1) AL.nil))) 2)) :: pcasks1_44)
def pcasks1_49 : List BE := ((BE.var 1004) :: pcasks1_45)
def pcasks1_50 : List BE := ((BE.not (BE.var 1004)) :: pcasks1_45)
def pcasks1_51 : List BE := ((BE.not (BE.var 1004)) :: pcasks1_46)
def pcasks1_52 : List BE := ((BE.le (IE.lit 0) (IE.var .i64 2)) :: pcasks1_48)
def pcasks1_53 : List BE := ((BE.not (BE.le (IE.lit 0) (IE.var .i64 2))) :: pcasks1_48)
def pcasks1_54 : List BE := ((BE.fn 5 (AL.lst (LE.rom 0) (AL.int .i64 (IE.var .i64 2) AL.nil))) :: pcasks1_49)
def pcasks1_55 : List BE := ((BE.not (BE.fn 5 (AL.lst (LE.rom 0) (AL.int .i64 (IE.var .i64 2) AL.nil)))) :: pcasks1_50)
def pcasks1_56 : List BE := ((BE.le (IE.var .i64 2) (IE.lit 5)) :: pcasks1_52)
def pcasks1_57 : List BE := ((BE.not (BE.le (IE.var .i64 2) (IE.lit 5))) :: pcasks1_52)
def pcasks1_58 : List BE := ((BE.not (BE.var 1004)) :: pcasks1_53)
def pcasks1_59 : List BE := ((BE.var 1004) :: pcasks1_56)
def pcasks1_60 : List BE := ((BE.not (BE.var 1004)) :: pcasks1_56)
def pcasks1_61 : List BE := ((BE.not (BE.var 1004)) :: pcasks1_57)
def pcasks1_62 : List BE := ((BE.fn 5 (AL.lst (LE.rom 0) (AL.int .i64 (IE.var .i64 2) AL.nil))) :: pcasks1_59)
def pcasks1_63 : List BE := ((BE.not (BE.fn 5 (AL.lst (LE.rom 0) (AL.int .i64 (IE.var .i64 2) AL.nil)))) :: pcasks1_60)
def wasks1_0 : VW := (VW.done ((BE.var 1006) :: pcasks1_15) (some [(G.b (BE.lit true) (BE.lit false))]))
def wasks1_1 : VW := (VW.done ((BE.eq (IE.var .i64 1005) (IE.lit 0)) :: pcasks1_42) (some []))
def wasks1_2 : VW := (VW.done ((BE.not (BE.eq (IE.var .i64 1005) (IE.lit 0))) :: pcasks1_42) (some [(G.b (BE.lit true) (BE.lit false))]))
def wasks1_3 : VW := (VW.done ((BE.not (BE.fn 5 (AL.lst (LE.rom 0) (AL.int .i64 (IE.var .i64 2) AL.nil)))) :: pcasks1_36) (some [(G.b (BE.lit true) (BE.lit false))]))
def wasks1_4 : VW := (VW.done ((BE.fn 5 (AL.lst (LE.rom 0) (AL.int .i64 (IE.var .i64 2) AL.nil))) :: pcasks1_37) (some [(G.b (BE.lit true) (BE.lit false))]))
def wasks1_5 : VW := (VW.done ((BE.eq (IE.var .i64 1005) (IE.lit 0)) :: pcasks1_43) (some []))
def wasks1_6 : VW := (VW.done ((BE.not (BE.eq (IE.var .i64 1005) (IE.lit 0))) :: pcasks1_43) (some [(G.b (BE.lit true) (BE.lit false))]))
def wasks1_7 : VW := (VW.done ((BE.var 1004) :: pcasks1_32) (some [(G.b (BE.lit true) (BE.lit false))]))
def wasks1_8 : VW := (VW.done ((BE.eq (IE.var .i64 1005) (IE.lit 2)) :: pcasks1_38) (some []))
def wasks1_9 : VW := (VW.done ((BE.not (BE.eq (IE.var .i64 1005) (IE.lit 2))) :: pcasks1_38) (some [(G.b (BE.lit true) (BE.lit false))]))
def wasks1_10 : VW := (VW.done ((BE.var 1004) :: pcasks1_26) (some [(G.b (BE.lit true) (BE.lit false))]))
def wasks1_11 : VW := (VW.done ((BE.eq (IE.var .i64 1005) (IE.lit 2)) :: pcasks1_33) (some []))
def wasks1_12 : VW := (VW.done ((BE.not (BE.eq (IE.var .i64 1005) (IE.lit 2))) :: pcasks1_33) (some [(G.b (BE.lit true) (BE.lit false))]))
def wasks1_13 : VW := (VW.done ((BE.eq (IE.var .i64 1005) (IE.lit 0)) :: pcasks1_62) (some []))
def wasks1_14 : VW := (VW.done ((BE.not (BE.eq (IE.var .i64 1005) (IE.lit 0))) :: pcasks1_62) (some [(G.b (BE.lit true) (BE.lit false))]))
def wasks1_15 : VW := (VW.done ((BE.not (BE.fn 5 (AL.lst (LE.rom 0) (AL.int .i64 (IE.var .i64 2) AL.nil)))) :: pcasks1_59) (some [(G.b (BE.lit true) (BE.lit false))]))
def wasks1_16 : VW := (VW.done ((BE.fn 5 (AL.lst (LE.rom 0) (AL.int .i64 (IE.var .i64 2) AL.nil))) :: pcasks1_60) (some [(G.b (BE.lit true) (BE.lit false))]))
def wasks1_17 : VW := (VW.done ((BE.eq (IE.var .i64 1005) (IE.lit 0)) :: pcasks1_63) (some []))
def wasks1_18 : VW := (VW.done ((BE.not (BE.eq (IE.var .i64 1005) (IE.lit 0))) :: pcasks1_63) (some [(G.b (BE.lit true) (BE.lit false))]))
def wasks1_19 : VW := (VW.done ((BE.var 1004) :: pcasks1_57) (some [(G.b (BE.lit true) (BE.lit false))]))
def wasks1_20 : VW := (VW.done ((BE.eq (IE.var .i64 1005) (IE.lit 2)) :: pcasks1_61) (some []))
def wasks1_21 : VW := (VW.done ((BE.not (BE.eq (IE.var .i64 1005) (IE.lit 2))) :: pcasks1_61) (some [(G.b (BE.lit true) (BE.lit false))]))
def wasks1_22 : VW := (VW.done ((BE.var 1004) :: pcasks1_53) (some [(G.b (BE.lit true) (BE.lit false))]))
def wasks1_23 : VW := (VW.done ((BE.eq (IE.var .i64 1005) (IE.lit 2)) :: pcasks1_58) (some []))
def wasks1_24 : VW := (VW.done ((BE.not (BE.eq (IE.var .i64 1005) (IE.lit 2))) :: pcasks1_58) (some [(G.b (BE.lit true) (BE.lit false))]))
def wasks1_25 : VW := (VW.done ((BE.not (BE.eq (IE.var .i64 1009) (IE.cel .i64 (LE.rom 0) (IE.fn .i64 2 (AL.lst (LE.rom 0) (AL.int .i64 (IE.var .i64 1) AL.nil))) 2))) :: pcasks1_44) (some [(G.b (BE.lit true) (BE.lit false))]))
def wasks1_26 : VW := (VW.done ((BE.not (BE.eq (IE.var .i64 1008) (IE.cel .i64 (LE.rom 0) (IE.fn .i64 2 (AL.lst (LE.rom 0) (AL.int .i64 (IE.var .i64 1) AL.nil))) 1))) :: pcasks1_39) (some [(G.b (BE.lit true) (BE.lit false))]))
def wasks1_27 : VW := (VW.done ((BE.not (BE.eq (IE.var .i64 1007) (IE.cel .i64 (LE.rom 0) (IE.fn .i64 2 (AL.lst (LE.rom 0) (AL.int .i64 (IE.var .i64 1) AL.nil))) 0))) :: pcasks1_34) (some [(G.b (BE.lit true) (BE.lit false))]))
def wasks1_28 : VW := (VW.done ((BE.not (BE.var 1006)) :: pcasks1_27) (some [(G.b (BE.lit true) (BE.lit false))]))
def wasks1_29 : VW := (VW.done ((BE.not (BE.eq (IE.var .i64 1003) (IE.cel .i64 (LE.rom 0) (IE.var .i64 1010) 2))) :: pcasks1_9) (some [(G.b (BE.lit true) (BE.lit false))]))
def wasks1_30 : VW := (VW.done ((BE.not (BE.eq (IE.var .i64 1002) (IE.cel .i64 (LE.rom 0) (IE.var .i64 1010) 1))) :: pcasks1_7) (some [(G.b (BE.lit true) (BE.lit false))]))
def wasks1_31 : VW := (VW.done ((BE.not (BE.eq (IE.var .i64 1001) (IE.cel .i64 (LE.rom 0) (IE.var .i64 1010) 0))) :: pcasks1_5) (some [(G.b (BE.lit true) (BE.lit false))]))
def wasks1_32 : VW := (VW.done ((BE.not (BE.le (IE.lit 0) (IE.var .i64 1010))) :: pcasks1_3) (some [(G.b (BE.lit true) (BE.lit false))]))
def wasks1_33 : VW := (VW.done ((BE.le (IE.lit 0) (IE.var .i64 1010)) :: pcasks1_4) (some [(G.b (BE.lit true) (BE.lit false))]))
def wasks1_34 : VW := (VW.done ((BE.var 1006) :: pcasks1_8) (some [(G.b (BE.lit true) (BE.lit false))]))
def wasks1_35 : VW := (VW.done ((BE.eq (IE.var .i64 1005) (IE.lit 0)) :: pcasks1_28) (some []))
def wasks1_36 : VW := (VW.done ((BE.not (BE.eq (IE.var .i64 1005) (IE.lit 0))) :: pcasks1_28) (some [(G.b (BE.lit true) (BE.lit false))]))
def wasks1_37 : VW := (VW.done ((BE.not (BE.fn 5 (AL.lst (LE.rom 0) (AL.int .i64 (IE.var .i64 2) AL.nil)))) :: pcasks1_21) (some [(G.b (BE.lit true) (BE.lit false))]))
def wasks1_38 : VW := (VW.done ((BE.fn 5 (AL.lst (LE.rom 0) (AL.int .i64 (IE.var .i64 2) AL.nil))) :: pcasks1_22) (some [(G.b (BE.lit true) (BE.lit false))]))
def wasks1_39 : VW := (VW.done ((BE.eq (IE.var .i64 1005) (IE.lit 0)) :: pcasks1_29) (some []))
def wasks1_40 : VW := (VW.done ((BE.not (BE.eq (IE.var .i64 1005) (IE.lit 0))) :: pcasks1_29) (some [(G.b (BE.lit true) (BE.lit false))]))
def wasks1_41 : VW := (VW.done ((BE.var 1004) :: pcasks1_17) (some [(G.b (BE.lit true) (BE.lit false))]))
def wasks1_42 : VW := (VW.done ((BE.eq (IE.var .i64 1005) (IE.lit 2)) :: pcasks1_23) (some []))
def wasks1_43 : VW := (VW.done ((BE.not (BE.eq (IE.var .i64 1005) (IE.lit 2))) :: pcasks1_23) (some [(G.b (BE.lit true) (BE.lit false))]))
def wasks1_44 : VW := (VW.done ((BE.var 1004) :: pcasks1_13) (some [(G.b (BE.lit true) (BE.lit false))]))
def wasks1_45 : VW := (VW.done ((BE.eq (IE.var .i64 1005) (IE.lit 2)) :: pcasks1_18) (some []))
def wasks1_46 : VW := (VW.done ((BE.not (BE.eq (IE.var .i64 1005) (IE.lit 2))) :: pcasks1_18) (some [(G.b (BE.lit true) (BE.lit false))]))
def wasks1_47 : VW := (VW.done ((BE.eq (IE.var .i64 1005) (IE.lit 0)) :: pcasks1_54) (some []))
def wasks1_48 : VW := (VW.done ((BE.not (BE.eq (IE.var .i64 1005) (IE.lit 0))) :: pcasks1_54) (some [(G.b (BE.lit true) (BE.lit false))]))
def wasks1_49 : VW := (VW.done ((BE.not (BE.fn 5 (AL.lst (LE.rom 0) (AL.int .i64 (IE.var .i64 2) AL.nil)))) :: pcasks1_49) (some [(G.b (BE.lit true) (BE.lit false))]))
def wasks1_50 : VW := (VW.done ((BE.fn 5 (AL.lst (LE.rom 0) (AL.int .i64 (IE.var .i64 2) AL.nil))) :: pcasks1_50) (some [(G.b (BE.lit true) (BE.lit false))]))
def wasks1_51 : VW := (VW.done ((BE.eq (IE.var .i64 1005) (IE.lit 0)) :: pcasks1_55) (some []))
def wasks1_52 : VW := (VW.done ((BE.not (BE.eq (IE.var .i64 1005) (IE.lit 0))) :: pcasks1_55) (some [(G.b (BE.lit true) (BE.lit false))]))
def wasks1_53 : VW := (VW.done ((BE.var 1004) :: pcasks1_46) (some [(G.b (BE.lit true) (BE.lit false))]))
def wasks1_54 : VW := (VW.done ((BE.eq (IE.var .i64 1005) (IE.lit 2)) :: pcasks1_51) (some []))
def wasks1_55 : VW := (VW.done ((BE.not (BE.eq (IE.var .i64 1005) (IE.lit 2))) :: pcasks1_51) (some [(G.b (BE.lit true) (BE.lit false))]))
def wasks1_56 : VW := (VW.done ((BE.var 1004) :: pcasks1_41) (some [(G.b (BE.lit true) (BE.lit false))]))
def wasks1_57 : VW := (VW.done ((BE.eq (IE.var .i64 1005) (IE.lit 2)) :: pcasks1_47) (some []))
def wasks1_58 : VW := (VW.done ((BE.not (BE.eq (IE.var .i64 1005) (IE.lit 2))) :: pcasks1_47) (some [(G.b (BE.lit true) (BE.lit false))]))
def wasks1_59 : VW := (VW.done ((BE.not (BE.eq (IE.var .i64 1009) (IE.cel .i64 (LE.rom 0) (IE.fn .i64 2 (AL.lst (LE.rom 0) (AL.int .i64 (IE.var .i64 1) AL.nil))) 2))) :: pcasks1_30) (some [(G.b (BE.lit true) (BE.lit false))]))
def wasks1_60 : VW := (VW.done ((BE.not (BE.eq (IE.var .i64 1008) (IE.cel .i64 (LE.rom 0) (IE.fn .i64 2 (AL.lst (LE.rom 0) (AL.int .i64 (IE.var .i64 1) AL.nil))) 1))) :: pcasks1_24) (some [(G.b (BE.lit true) (BE.lit false))]))
def wasks1_61 : VW := (VW.done ((BE.not (BE.eq (IE.var .i64 1007) (IE.cel .i64 (LE.rom 0) (IE.fn .i64 2 (AL.lst (LE.rom 0) (AL.int .i64 (IE.var .i64 1) AL.nil))) 0))) :: pcasks1_19) (some [(G.b (BE.lit true) (BE.lit false))]))
def wasks1_62 : VW := (VW.done ((BE.not (BE.var 1006)) :: pcasks1_14) (some [(G.b (BE.lit true) (BE.lit false))]))
def wasks1_63 : VW := (VW.cut 1 ((BE.eq (IE.cel .i64 (LE.fn 2 (AL.lst (LE.rom 0) AL.nil)) (IE.var .i64 1011) 0) (IE.lit 5)) :: pcasks1_2) (Sx.Sub.mk [(.i64, (1003, (IE.var .i64 1003))), (.i64, (1002, (IE.var .i64 1002))), (.i64, (1001, (IE.var .i64 1001))), (.i64, (1009, (IE.var .i64 1009))), (.i64, (1008, (IE.var .i64 1008))), (.i64, (1007, (IE.var .i64 1007))), (.i64, (1011, (IE.add (IE.var .i64 1011) (IE.lit 1)))), (.i64, (1010, (IE.var .i64 1011))), (.i64, (1005, (IE.var .i64 1005)))] [(1000, (BE.var 1000)), (1004, (BE.var 1004)), (1006, (BE.var 1006))] [] [] [] []))
def wasks1_64 : VW := (VW.cut 1 ((BE.not (BE.eq (IE.cel .i64 (LE.fn 2 (AL.lst (LE.rom 0) AL.nil)) (IE.var .i64 1011) 0) (IE.lit 5))) :: pcasks1_2) (Sx.Sub.mk [(.i64, (1003, (IE.var .i64 1003))), (.i64, (1002, (IE.var .i64 1002))), (.i64, (1001, (IE.var .i64 1001))), (.i64, (1009, (IE.var .i64 1009))), (.i64, (1008, (IE.var .i64 1008))), (.i64, (1007, (IE.var .i64 1007))), (.i64, (1011, (IE.add (IE.var .i64 1011) (IE.lit 1)))), (.i64, (1010, (IE.var .i64 1010))), (.i64, (1005, (IE.var .i64 1005)))] [(1000, (BE.var 1000)), (1004, (BE.var 1004)), (1006, (BE.var 1006))] [] [] [] []))
def vwasks1 : List VW := [wasks1_0, wasks1_1, wasks1_2, wasks1_3, wasks1_4, wasks1_5, wasks1_6, wasks1_7, wasks1_8, wasks1_9, wasks1_10, wasks1_11, wasks1_12, wasks1_13, wasks1_14, wasks1_15, wasks1_16, wasks1_17, wasks1_18, wasks1_19, wasks1_20, wasks1_21, wasks1_22, wasks1_23, wasks1_24, wasks1_25, wasks1_26, wasks1_27, wasks1_28, wasks1_29, wasks1_30, wasks1_31, wasks1_32, wasks1_33, wasks1_34, wasks1_35, wasks1_36, wasks1_37, wasks1_38, wasks1_39, wasks1_40, wasks1_41, wasks1_42, wasks1_43, wasks1_44, wasks1_45, wasks1_46, wasks1_47, wasks1_48, wasks1_49, wasks1_50, wasks1_51, wasks1_52, wasks1_53, wasks1_54, wasks1_55, wasks1_56, wasks1_57, wasks1_58, wasks1_59, wasks1_60, wasks1_61, wasks1_62, wasks1_63, wasks1_64]
def vwasks : Nat → List VW
  | 0 => vwasks0
  | 1 => vwasks1
  | _ => []
end
def invasks : Nat → Lt → Prop
  | 1, l => (((l.b 1006) = true ∧ (findN (l.z.rl 0) (l.i .i64 1) (l.z.rl 0).length) < (l.z.rl 0).length ∧ (l.i .i64 1007) = clampK .i64 (intV (celV (l.z.rl 0) ((findN (l.z.rl 0) (l.i .i64 1) (l.z.rl 0).length) : Int) 0)) ∧ (l.i .i64 1008) = clampK .i64 (intV (celV (l.z.rl 0) ((findN (l.z.rl 0) (l.i .i64 1) (l.z.rl 0).length) : Int) 1)) ∧ (l.i .i64 1009) = clampK .i64 (intV (celV (l.z.rl 0) ((findN (l.z.rl 0) (l.i .i64 1) (l.z.rl 0).length) : Int) 2))) ∨ ((l.b 1006) = false ∧ (l.z.rl 0).length ≤ (findN (l.z.rl 0) (l.i .i64 1) (l.z.rl 0).length))) ∧ (((l.b 1000) = true ∧ (writeN (l.z.rl 0) (l.z.rl 0).length) < (l.z.rl 0).length ∧ (l.i .i64 1001) = clampK .i64 (intV (celV (l.z.rl 0) ((writeN (l.z.rl 0) (l.z.rl 0).length) : Int) 0)) ∧ (l.i .i64 1002) = clampK .i64 (intV (celV (l.z.rl 0) ((writeN (l.z.rl 0) (l.z.rl 0).length) : Int) 1)) ∧ (l.i .i64 1003) = clampK .i64 (intV (celV (l.z.rl 0) ((writeN (l.z.rl 0) (l.z.rl 0).length) : Int) 2))) ∨ ((l.b 1000) = false ∧ (l.z.rl 0).length ≤ (writeN (l.z.rl 0) (l.z.rl 0).length))) ∧ ((0 ≤ (l.i .i64 2) ∧ (l.i .i64 2) ≤ 5 ∧ (l.i .i64 1005) = 0 ∧ (l.b 1004) = fitsAll (l.z.rl 0) 2 (l.i .i64 2) (l.z.rl 0).length) ∨ (((l.i .i64 2) < 0 ∨ 5 < (l.i .i64 2)) ∧ (l.i .i64 1005) = 2 ∧ (l.b 1004) = false)) ∧ (((l.i .i64 1010) = -1 ∧ writeN (l.z.rl 0) (l.i .i64 1011).toNat = (l.i .i64 1011).toNat) ∨ (0 ≤ (l.i .i64 1010) ∧ (l.i .i64 1010) < (l.i .i64 1011) ∧ atI (l.z.rl 0) (l.i .i64 1010).toNat 2 = 5))
  | _, _ => True
def msasks : Nat → Lt → Nat
  | 0, l => (l.z.rl 0).length + 1
  | 1, l => (l.z.rl 0).length - (l.i .i64 1011).toNat
  | _, _ => 0
theorem vcasks0_0 : VC TTasks invasks msasks 0 (startF 11 cAsks.pat (.lit true :: cAsks.pre)) wasks0_0 := by
  intro ρ kn hi hp
  have hF : ρ.z.F = hold.Φ := kn.F
  simp only [h_nil, h_cons, d_le, d_eq, d_not, d_var, d_lit, d_cel, d_leq, d_fn, d_and, d_iff, IE.den, LE.den, AL.den, lenV, true_and, and_true, pcasks0_8, pcasks0_4, pcasks0_3, pcasks0_2, pcasks0_1, pcasks0_0, hF, pi1, pi2, pi3, pi4, pl2, pb1, pb2, pb3, pb4, pb5, pb6] at hp
  obtain ⟨p1, p2, p3, p4, p5, p6, p7, p8, p9, p10, p11⟩ := hp
  refine (show (((false = true ∧ (findN (ρ.z.rl 0) (ρ.i .i64 1) (ρ.z.rl 0).length) < (ρ.z.rl 0).length ∧ (0 : Int) = clampK .i64 (intV (celV (ρ.z.rl 0) ((findN (ρ.z.rl 0) (ρ.i .i64 1) (ρ.z.rl 0).length) : Int) 0)) ∧ (0 : Int) = clampK .i64 (intV (celV (ρ.z.rl 0) ((findN (ρ.z.rl 0) (ρ.i .i64 1) (ρ.z.rl 0).length) : Int) 1)) ∧ (0 : Int) = clampK .i64 (intV (celV (ρ.z.rl 0) ((findN (ρ.z.rl 0) (ρ.i .i64 1) (ρ.z.rl 0).length) : Int) 2))) ∨ (false = false ∧ (ρ.z.rl 0).length ≤ (findN (ρ.z.rl 0) (ρ.i .i64 1) (ρ.z.rl 0).length))) ∧ ((false = true ∧ (writeN (ρ.z.rl 0) (ρ.z.rl 0).length) < (ρ.z.rl 0).length ∧ (0 : Int) = clampK .i64 (intV (celV (ρ.z.rl 0) ((writeN (ρ.z.rl 0) (ρ.z.rl 0).length) : Int) 0)) ∧ (0 : Int) = clampK .i64 (intV (celV (ρ.z.rl 0) ((writeN (ρ.z.rl 0) (ρ.z.rl 0).length) : Int) 1)) ∧ (0 : Int) = clampK .i64 (intV (celV (ρ.z.rl 0) ((writeN (ρ.z.rl 0) (ρ.z.rl 0).length) : Int) 2))) ∨ (false = false ∧ (ρ.z.rl 0).length ≤ (writeN (ρ.z.rl 0) (ρ.z.rl 0).length))) ∧ ((0 ≤ (ρ.i .i64 2) ∧ (ρ.i .i64 2) ≤ 5 ∧ (2 : Int) = 0 ∧ false = fitsAll (ρ.z.rl 0) 2 (ρ.i .i64 2) (ρ.z.rl 0).length) ∨ (((ρ.i .i64 2) < 0 ∨ 5 < (ρ.i .i64 2)) ∧ (2 : Int) = 2 ∧ false = false)) ∧ (((-1 : Int) = -1 ∧ writeN (ρ.z.rl 0) (0 : Int).toNat = (0 : Int).toNat) ∨ (0 ≤ (-1 : Int) ∧ (-1 : Int) < (0 : Int) ∧ atI (ρ.z.rl 0) (-1 : Int).toNat 2 = 5))) ∧ (((ρ.z.rl 0).length - (0 : Int).toNat : Nat) < (ρ.z.rl 0).length + 1) from ?_)
  have bN : findN (ρ.z.rl 0) (ρ.i .i64 1) (ρ.z.rl 0).length ≤ (ρ.z.rl 0).length := first_le _ _
  have bW : writeN (ρ.z.rl 0) (ρ.z.rl 0).length ≤ (ρ.z.rl 0).length := first_le _ _
  have cN : clampK .i64 ((findN (ρ.z.rl 0) (ρ.i .i64 1) (ρ.z.rl 0).length : Nat) : Int) = ((findN (ρ.z.rl 0) (ρ.i .i64 1) (ρ.z.rl 0).length : Nat) : Int) := clampS (by omega) (by omega)
  have cW : clampK .i64 ((writeN (ρ.z.rl 0) (ρ.z.rl 0).length : Nat) : Int) = ((writeN (ρ.z.rl 0) (ρ.z.rl 0).length : Nat) : Int) := clampS (by omega) (by omega)
  simp only [cN, cW] at *
  refine ⟨⟨?_, ?_, ?_, .inl ⟨(by first | rfl | trivial), (by first | rfl | trivial)⟩⟩, by omega⟩
  · first | exact .inl ⟨(by first | rfl | trivial), by omega, (by first | rfl | trivial), (by first | rfl | trivial), (by first | rfl | trivial)⟩ | exact .inr ⟨(by first | rfl | trivial), by omega⟩
  · first | exact .inl ⟨(by first | rfl | trivial), by omega, (by first | rfl | trivial), (by first | rfl | trivial), (by first | rfl | trivial)⟩ | exact .inr ⟨(by first | rfl | trivial), by omega⟩
  · first | exact .inl ⟨by omega, by omega, (by first | rfl | trivial), (by first | rfl | trivial)⟩ | exact .inr ⟨by omega, (by first | rfl | trivial), (by first | rfl | trivial)⟩
theorem vcasks0_1 : VC TTasks invasks msasks 0 (startF 11 cAsks.pat (.lit true :: cAsks.pre)) wasks0_1 := by
  intro ρ kn hi hp
  have hF : ρ.z.F = hold.Φ := kn.F
  simp only [h_nil, h_cons, d_le, d_eq, d_not, d_var, d_lit, d_cel, d_leq, d_fn, d_and, d_iff, IE.den, LE.den, AL.den, lenV, true_and, and_true, pcasks0_8, pcasks0_4, pcasks0_3, pcasks0_2, pcasks0_1, pcasks0_0, hF, pi1, pi2, pi3, pi4, pl2, pb1, pb2, pb3, pb4, pb5, pb6] at hp
  obtain ⟨p1, p2, p3, p4, p5, p6, p7, p8, p9, p10, p11⟩ := hp
  refine (show (((false = true ∧ (findN (ρ.z.rl 0) (ρ.i .i64 1) (ρ.z.rl 0).length) < (ρ.z.rl 0).length ∧ (0 : Int) = clampK .i64 (intV (celV (ρ.z.rl 0) ((findN (ρ.z.rl 0) (ρ.i .i64 1) (ρ.z.rl 0).length) : Int) 0)) ∧ (0 : Int) = clampK .i64 (intV (celV (ρ.z.rl 0) ((findN (ρ.z.rl 0) (ρ.i .i64 1) (ρ.z.rl 0).length) : Int) 1)) ∧ (0 : Int) = clampK .i64 (intV (celV (ρ.z.rl 0) ((findN (ρ.z.rl 0) (ρ.i .i64 1) (ρ.z.rl 0).length) : Int) 2))) ∨ (false = false ∧ (ρ.z.rl 0).length ≤ (findN (ρ.z.rl 0) (ρ.i .i64 1) (ρ.z.rl 0).length))) ∧ ((true = true ∧ (writeN (ρ.z.rl 0) (ρ.z.rl 0).length) < (ρ.z.rl 0).length ∧ (clampK .i64 (intV (celV (ρ.z.rl 0) (clampK .i64 (ρ.z.F.i 4 [.lst (ρ.z.rl 0)])) 0))) = clampK .i64 (intV (celV (ρ.z.rl 0) ((writeN (ρ.z.rl 0) (ρ.z.rl 0).length) : Int) 0)) ∧ (clampK .i64 (intV (celV (ρ.z.rl 0) (clampK .i64 (ρ.z.F.i 4 [.lst (ρ.z.rl 0)])) 1))) = clampK .i64 (intV (celV (ρ.z.rl 0) ((writeN (ρ.z.rl 0) (ρ.z.rl 0).length) : Int) 1)) ∧ (clampK .i64 (intV (celV (ρ.z.rl 0) (clampK .i64 (ρ.z.F.i 4 [.lst (ρ.z.rl 0)])) 2))) = clampK .i64 (intV (celV (ρ.z.rl 0) ((writeN (ρ.z.rl 0) (ρ.z.rl 0).length) : Int) 2))) ∨ (true = false ∧ (ρ.z.rl 0).length ≤ (writeN (ρ.z.rl 0) (ρ.z.rl 0).length))) ∧ ((0 ≤ (ρ.i .i64 2) ∧ (ρ.i .i64 2) ≤ 5 ∧ (2 : Int) = 0 ∧ false = fitsAll (ρ.z.rl 0) 2 (ρ.i .i64 2) (ρ.z.rl 0).length) ∨ (((ρ.i .i64 2) < 0 ∨ 5 < (ρ.i .i64 2)) ∧ (2 : Int) = 2 ∧ false = false)) ∧ (((-1 : Int) = -1 ∧ writeN (ρ.z.rl 0) (0 : Int).toNat = (0 : Int).toNat) ∨ (0 ≤ (-1 : Int) ∧ (-1 : Int) < (0 : Int) ∧ atI (ρ.z.rl 0) (-1 : Int).toNat 2 = 5))) ∧ (((ρ.z.rl 0).length - (0 : Int).toNat : Nat) < (ρ.z.rl 0).length + 1) from ?_)
  simp only [hF, pi1, pi2, pi3, pi4, pl2, pb1, pb2, pb3, pb4, pb5, pb6]
  have bN : findN (ρ.z.rl 0) (ρ.i .i64 1) (ρ.z.rl 0).length ≤ (ρ.z.rl 0).length := first_le _ _
  have bW : writeN (ρ.z.rl 0) (ρ.z.rl 0).length ≤ (ρ.z.rl 0).length := first_le _ _
  have cN : clampK .i64 ((findN (ρ.z.rl 0) (ρ.i .i64 1) (ρ.z.rl 0).length : Nat) : Int) = ((findN (ρ.z.rl 0) (ρ.i .i64 1) (ρ.z.rl 0).length : Nat) : Int) := clampS (by omega) (by omega)
  have cW : clampK .i64 ((writeN (ρ.z.rl 0) (ρ.z.rl 0).length : Nat) : Int) = ((writeN (ρ.z.rl 0) (ρ.z.rl 0).length : Nat) : Int) := clampS (by omega) (by omega)
  simp only [cN, cW] at *
  refine ⟨⟨?_, ?_, ?_, .inl ⟨(by first | rfl | trivial), (by first | rfl | trivial)⟩⟩, by omega⟩
  · first | exact .inl ⟨(by first | rfl | trivial), by omega, (by first | rfl | trivial), (by first | rfl | trivial), (by first | rfl | trivial)⟩ | exact .inr ⟨(by first | rfl | trivial), by omega⟩
  · first | exact .inl ⟨(by first | rfl | trivial), by omega, (by first | rfl | trivial), (by first | rfl | trivial), (by first | rfl | trivial)⟩ | exact .inr ⟨(by first | rfl | trivial), by omega⟩
  · first | exact .inl ⟨by omega, by omega, (by first | rfl | trivial), (by first | rfl | trivial)⟩ | exact .inr ⟨by omega, (by first | rfl | trivial), (by first | rfl | trivial)⟩
theorem vcasks0_2 : VC TTasks invasks msasks 0 (startF 11 cAsks.pat (.lit true :: cAsks.pre)) wasks0_2 := by
  intro ρ kn hi hp
  have hF : ρ.z.F = hold.Φ := kn.F
  simp only [h_nil, h_cons, d_le, d_eq, d_not, d_var, d_lit, d_cel, d_leq, d_fn, d_and, d_iff, IE.den, LE.den, AL.den, lenV, true_and, and_true, pcasks0_9, pcasks0_4, pcasks0_3, pcasks0_2, pcasks0_1, pcasks0_0, hF, pi1, pi2, pi3, pi4, pl2, pb1, pb2, pb3, pb4, pb5, pb6] at hp
  obtain ⟨p1, p2, p3, p4, p5, p6, p7, p8, p9, p10, p11⟩ := hp
  refine (show (((false = true ∧ (findN (ρ.z.rl 0) (ρ.i .i64 1) (ρ.z.rl 0).length) < (ρ.z.rl 0).length ∧ (0 : Int) = clampK .i64 (intV (celV (ρ.z.rl 0) ((findN (ρ.z.rl 0) (ρ.i .i64 1) (ρ.z.rl 0).length) : Int) 0)) ∧ (0 : Int) = clampK .i64 (intV (celV (ρ.z.rl 0) ((findN (ρ.z.rl 0) (ρ.i .i64 1) (ρ.z.rl 0).length) : Int) 1)) ∧ (0 : Int) = clampK .i64 (intV (celV (ρ.z.rl 0) ((findN (ρ.z.rl 0) (ρ.i .i64 1) (ρ.z.rl 0).length) : Int) 2))) ∨ (false = false ∧ (ρ.z.rl 0).length ≤ (findN (ρ.z.rl 0) (ρ.i .i64 1) (ρ.z.rl 0).length))) ∧ ((false = true ∧ (writeN (ρ.z.rl 0) (ρ.z.rl 0).length) < (ρ.z.rl 0).length ∧ (0 : Int) = clampK .i64 (intV (celV (ρ.z.rl 0) ((writeN (ρ.z.rl 0) (ρ.z.rl 0).length) : Int) 0)) ∧ (0 : Int) = clampK .i64 (intV (celV (ρ.z.rl 0) ((writeN (ρ.z.rl 0) (ρ.z.rl 0).length) : Int) 1)) ∧ (0 : Int) = clampK .i64 (intV (celV (ρ.z.rl 0) ((writeN (ρ.z.rl 0) (ρ.z.rl 0).length) : Int) 2))) ∨ (false = false ∧ (ρ.z.rl 0).length ≤ (writeN (ρ.z.rl 0) (ρ.z.rl 0).length))) ∧ ((0 ≤ (ρ.i .i64 2) ∧ (ρ.i .i64 2) ≤ 5 ∧ (0 : Int) = 0 ∧ (ρ.z.F.b 5 [.lst (ρ.z.rl 0), .int .i64 (ρ.i .i64 2)]) = fitsAll (ρ.z.rl 0) 2 (ρ.i .i64 2) (ρ.z.rl 0).length) ∨ (((ρ.i .i64 2) < 0 ∨ 5 < (ρ.i .i64 2)) ∧ (0 : Int) = 2 ∧ (ρ.z.F.b 5 [.lst (ρ.z.rl 0), .int .i64 (ρ.i .i64 2)]) = false)) ∧ (((-1 : Int) = -1 ∧ writeN (ρ.z.rl 0) (0 : Int).toNat = (0 : Int).toNat) ∨ (0 ≤ (-1 : Int) ∧ (-1 : Int) < (0 : Int) ∧ atI (ρ.z.rl 0) (-1 : Int).toNat 2 = 5))) ∧ (((ρ.z.rl 0).length - (0 : Int).toNat : Nat) < (ρ.z.rl 0).length + 1) from ?_)
  simp only [hF, pi1, pi2, pi3, pi4, pl2, pb1, pb2, pb3, pb4, pb5, pb6]
  have bN : findN (ρ.z.rl 0) (ρ.i .i64 1) (ρ.z.rl 0).length ≤ (ρ.z.rl 0).length := first_le _ _
  have bW : writeN (ρ.z.rl 0) (ρ.z.rl 0).length ≤ (ρ.z.rl 0).length := first_le _ _
  have cN : clampK .i64 ((findN (ρ.z.rl 0) (ρ.i .i64 1) (ρ.z.rl 0).length : Nat) : Int) = ((findN (ρ.z.rl 0) (ρ.i .i64 1) (ρ.z.rl 0).length : Nat) : Int) := clampS (by omega) (by omega)
  have cW : clampK .i64 ((writeN (ρ.z.rl 0) (ρ.z.rl 0).length : Nat) : Int) = ((writeN (ρ.z.rl 0) (ρ.z.rl 0).length : Nat) : Int) := clampS (by omega) (by omega)
  simp only [cN, cW] at *
  refine ⟨⟨?_, ?_, ?_, .inl ⟨(by first | rfl | trivial), (by first | rfl | trivial)⟩⟩, by omega⟩
  · first | exact .inl ⟨(by first | rfl | trivial), by omega, (by first | rfl | trivial), (by first | rfl | trivial), (by first | rfl | trivial)⟩ | exact .inr ⟨(by first | rfl | trivial), by omega⟩
  · first | exact .inl ⟨(by first | rfl | trivial), by omega, (by first | rfl | trivial), (by first | rfl | trivial), (by first | rfl | trivial)⟩ | exact .inr ⟨(by first | rfl | trivial), by omega⟩
  · first | exact .inl ⟨by omega, by omega, (by first | rfl | trivial), (by first | rfl | trivial)⟩ | exact .inr ⟨by omega, (by first | rfl | trivial), (by first | rfl | trivial)⟩
theorem vcasks0_3 : VC TTasks invasks msasks 0 (startF 11 cAsks.pat (.lit true :: cAsks.pre)) wasks0_3 := by
  intro ρ kn hi hp
  have hF : ρ.z.F = hold.Φ := kn.F
  simp only [h_nil, h_cons, d_le, d_eq, d_not, d_var, d_lit, d_cel, d_leq, d_fn, d_and, d_iff, IE.den, LE.den, AL.den, lenV, true_and, and_true, pcasks0_9, pcasks0_4, pcasks0_3, pcasks0_2, pcasks0_1, pcasks0_0, hF, pi1, pi2, pi3, pi4, pl2, pb1, pb2, pb3, pb4, pb5, pb6] at hp
  obtain ⟨p1, p2, p3, p4, p5, p6, p7, p8, p9, p10, p11⟩ := hp
  refine (show (((false = true ∧ (findN (ρ.z.rl 0) (ρ.i .i64 1) (ρ.z.rl 0).length) < (ρ.z.rl 0).length ∧ (0 : Int) = clampK .i64 (intV (celV (ρ.z.rl 0) ((findN (ρ.z.rl 0) (ρ.i .i64 1) (ρ.z.rl 0).length) : Int) 0)) ∧ (0 : Int) = clampK .i64 (intV (celV (ρ.z.rl 0) ((findN (ρ.z.rl 0) (ρ.i .i64 1) (ρ.z.rl 0).length) : Int) 1)) ∧ (0 : Int) = clampK .i64 (intV (celV (ρ.z.rl 0) ((findN (ρ.z.rl 0) (ρ.i .i64 1) (ρ.z.rl 0).length) : Int) 2))) ∨ (false = false ∧ (ρ.z.rl 0).length ≤ (findN (ρ.z.rl 0) (ρ.i .i64 1) (ρ.z.rl 0).length))) ∧ ((true = true ∧ (writeN (ρ.z.rl 0) (ρ.z.rl 0).length) < (ρ.z.rl 0).length ∧ (clampK .i64 (intV (celV (ρ.z.rl 0) (clampK .i64 (ρ.z.F.i 4 [.lst (ρ.z.rl 0)])) 0))) = clampK .i64 (intV (celV (ρ.z.rl 0) ((writeN (ρ.z.rl 0) (ρ.z.rl 0).length) : Int) 0)) ∧ (clampK .i64 (intV (celV (ρ.z.rl 0) (clampK .i64 (ρ.z.F.i 4 [.lst (ρ.z.rl 0)])) 1))) = clampK .i64 (intV (celV (ρ.z.rl 0) ((writeN (ρ.z.rl 0) (ρ.z.rl 0).length) : Int) 1)) ∧ (clampK .i64 (intV (celV (ρ.z.rl 0) (clampK .i64 (ρ.z.F.i 4 [.lst (ρ.z.rl 0)])) 2))) = clampK .i64 (intV (celV (ρ.z.rl 0) ((writeN (ρ.z.rl 0) (ρ.z.rl 0).length) : Int) 2))) ∨ (true = false ∧ (ρ.z.rl 0).length ≤ (writeN (ρ.z.rl 0) (ρ.z.rl 0).length))) ∧ ((0 ≤ (ρ.i .i64 2) ∧ (ρ.i .i64 2) ≤ 5 ∧ (0 : Int) = 0 ∧ (ρ.z.F.b 5 [.lst (ρ.z.rl 0), .int .i64 (ρ.i .i64 2)]) = fitsAll (ρ.z.rl 0) 2 (ρ.i .i64 2) (ρ.z.rl 0).length) ∨ (((ρ.i .i64 2) < 0 ∨ 5 < (ρ.i .i64 2)) ∧ (0 : Int) = 2 ∧ (ρ.z.F.b 5 [.lst (ρ.z.rl 0), .int .i64 (ρ.i .i64 2)]) = false)) ∧ (((-1 : Int) = -1 ∧ writeN (ρ.z.rl 0) (0 : Int).toNat = (0 : Int).toNat) ∨ (0 ≤ (-1 : Int) ∧ (-1 : Int) < (0 : Int) ∧ atI (ρ.z.rl 0) (-1 : Int).toNat 2 = 5))) ∧ (((ρ.z.rl 0).length - (0 : Int).toNat : Nat) < (ρ.z.rl 0).length + 1) from ?_)
  simp only [hF, pi1, pi2, pi3, pi4, pl2, pb1, pb2, pb3, pb4, pb5, pb6]
  have bN : findN (ρ.z.rl 0) (ρ.i .i64 1) (ρ.z.rl 0).length ≤ (ρ.z.rl 0).length := first_le _ _
  have bW : writeN (ρ.z.rl 0) (ρ.z.rl 0).length ≤ (ρ.z.rl 0).length := first_le _ _
  have cN : clampK .i64 ((findN (ρ.z.rl 0) (ρ.i .i64 1) (ρ.z.rl 0).length : Nat) : Int) = ((findN (ρ.z.rl 0) (ρ.i .i64 1) (ρ.z.rl 0).length : Nat) : Int) := clampS (by omega) (by omega)
  have cW : clampK .i64 ((writeN (ρ.z.rl 0) (ρ.z.rl 0).length : Nat) : Int) = ((writeN (ρ.z.rl 0) (ρ.z.rl 0).length : Nat) : Int) := clampS (by omega) (by omega)
  simp only [cN, cW] at *
  refine ⟨⟨?_, ?_, ?_, .inl ⟨(by first | rfl | trivial), (by first | rfl | trivial)⟩⟩, by omega⟩
  · first | exact .inl ⟨(by first | rfl | trivial), by omega, (by first | rfl | trivial), (by first | rfl | trivial), (by first | rfl | trivial)⟩ | exact .inr ⟨(by first | rfl | trivial), by omega⟩
  · first | exact .inl ⟨(by first | rfl | trivial), by omega, (by first | rfl | trivial), (by first | rfl | trivial), (by first | rfl | trivial)⟩ | exact .inr ⟨(by first | rfl | trivial), by omega⟩
  · first | exact .inl ⟨by omega, by omega, (by first | rfl | trivial), (by first | rfl | trivial)⟩ | exact .inr ⟨by omega, (by first | rfl | trivial), (by first | rfl | trivial)⟩
theorem vcasks0_4 : VC TTasks invasks msasks 0 (startF 11 cAsks.pat (.lit true :: cAsks.pre)) wasks0_4 := by
  intro ρ kn hi hp
  have hF : ρ.z.F = hold.Φ := kn.F
  simp only [h_nil, h_cons, d_le, d_eq, d_not, d_var, d_lit, d_cel, d_leq, d_fn, d_and, d_iff, IE.den, LE.den, AL.den, lenV, true_and, and_true, pcasks0_6, pcasks0_3, pcasks0_2, pcasks0_1, pcasks0_0, hF, pi1, pi2, pi3, pi4, pl2, pb1, pb2, pb3, pb4, pb5, pb6] at hp
  obtain ⟨p1, p2, p3, p4, p5, p6, p7, p8, p9, p10⟩ := hp
  refine (show (((false = true ∧ (findN (ρ.z.rl 0) (ρ.i .i64 1) (ρ.z.rl 0).length) < (ρ.z.rl 0).length ∧ (0 : Int) = clampK .i64 (intV (celV (ρ.z.rl 0) ((findN (ρ.z.rl 0) (ρ.i .i64 1) (ρ.z.rl 0).length) : Int) 0)) ∧ (0 : Int) = clampK .i64 (intV (celV (ρ.z.rl 0) ((findN (ρ.z.rl 0) (ρ.i .i64 1) (ρ.z.rl 0).length) : Int) 1)) ∧ (0 : Int) = clampK .i64 (intV (celV (ρ.z.rl 0) ((findN (ρ.z.rl 0) (ρ.i .i64 1) (ρ.z.rl 0).length) : Int) 2))) ∨ (false = false ∧ (ρ.z.rl 0).length ≤ (findN (ρ.z.rl 0) (ρ.i .i64 1) (ρ.z.rl 0).length))) ∧ ((false = true ∧ (writeN (ρ.z.rl 0) (ρ.z.rl 0).length) < (ρ.z.rl 0).length ∧ (0 : Int) = clampK .i64 (intV (celV (ρ.z.rl 0) ((writeN (ρ.z.rl 0) (ρ.z.rl 0).length) : Int) 0)) ∧ (0 : Int) = clampK .i64 (intV (celV (ρ.z.rl 0) ((writeN (ρ.z.rl 0) (ρ.z.rl 0).length) : Int) 1)) ∧ (0 : Int) = clampK .i64 (intV (celV (ρ.z.rl 0) ((writeN (ρ.z.rl 0) (ρ.z.rl 0).length) : Int) 2))) ∨ (false = false ∧ (ρ.z.rl 0).length ≤ (writeN (ρ.z.rl 0) (ρ.z.rl 0).length))) ∧ ((0 ≤ (ρ.i .i64 2) ∧ (ρ.i .i64 2) ≤ 5 ∧ (2 : Int) = 0 ∧ false = fitsAll (ρ.z.rl 0) 2 (ρ.i .i64 2) (ρ.z.rl 0).length) ∨ (((ρ.i .i64 2) < 0 ∨ 5 < (ρ.i .i64 2)) ∧ (2 : Int) = 2 ∧ false = false)) ∧ (((-1 : Int) = -1 ∧ writeN (ρ.z.rl 0) (0 : Int).toNat = (0 : Int).toNat) ∨ (0 ≤ (-1 : Int) ∧ (-1 : Int) < (0 : Int) ∧ atI (ρ.z.rl 0) (-1 : Int).toNat 2 = 5))) ∧ (((ρ.z.rl 0).length - (0 : Int).toNat : Nat) < (ρ.z.rl 0).length + 1) from ?_)
  have bN : findN (ρ.z.rl 0) (ρ.i .i64 1) (ρ.z.rl 0).length ≤ (ρ.z.rl 0).length := first_le _ _
  have bW : writeN (ρ.z.rl 0) (ρ.z.rl 0).length ≤ (ρ.z.rl 0).length := first_le _ _
  have cN : clampK .i64 ((findN (ρ.z.rl 0) (ρ.i .i64 1) (ρ.z.rl 0).length : Nat) : Int) = ((findN (ρ.z.rl 0) (ρ.i .i64 1) (ρ.z.rl 0).length : Nat) : Int) := clampS (by omega) (by omega)
  have cW : clampK .i64 ((writeN (ρ.z.rl 0) (ρ.z.rl 0).length : Nat) : Int) = ((writeN (ρ.z.rl 0) (ρ.z.rl 0).length : Nat) : Int) := clampS (by omega) (by omega)
  simp only [cN, cW] at *
  refine ⟨⟨?_, ?_, ?_, .inl ⟨(by first | rfl | trivial), (by first | rfl | trivial)⟩⟩, by omega⟩
  · first | exact .inl ⟨(by first | rfl | trivial), by omega, (by first | rfl | trivial), (by first | rfl | trivial), (by first | rfl | trivial)⟩ | exact .inr ⟨(by first | rfl | trivial), by omega⟩
  · first | exact .inl ⟨(by first | rfl | trivial), by omega, (by first | rfl | trivial), (by first | rfl | trivial), (by first | rfl | trivial)⟩ | exact .inr ⟨(by first | rfl | trivial), by omega⟩
  · first | exact .inl ⟨by omega, by omega, (by first | rfl | trivial), (by first | rfl | trivial)⟩ | exact .inr ⟨by omega, (by first | rfl | trivial), (by first | rfl | trivial)⟩
theorem vcasks0_5 : VC TTasks invasks msasks 0 (startF 11 cAsks.pat (.lit true :: cAsks.pre)) wasks0_5 := by
  intro ρ kn hi hp
  have hF : ρ.z.F = hold.Φ := kn.F
  simp only [h_nil, h_cons, d_le, d_eq, d_not, d_var, d_lit, d_cel, d_leq, d_fn, d_and, d_iff, IE.den, LE.den, AL.den, lenV, true_and, and_true, pcasks0_6, pcasks0_3, pcasks0_2, pcasks0_1, pcasks0_0, hF, pi1, pi2, pi3, pi4, pl2, pb1, pb2, pb3, pb4, pb5, pb6] at hp
  obtain ⟨p1, p2, p3, p4, p5, p6, p7, p8, p9, p10⟩ := hp
  refine (show (((false = true ∧ (findN (ρ.z.rl 0) (ρ.i .i64 1) (ρ.z.rl 0).length) < (ρ.z.rl 0).length ∧ (0 : Int) = clampK .i64 (intV (celV (ρ.z.rl 0) ((findN (ρ.z.rl 0) (ρ.i .i64 1) (ρ.z.rl 0).length) : Int) 0)) ∧ (0 : Int) = clampK .i64 (intV (celV (ρ.z.rl 0) ((findN (ρ.z.rl 0) (ρ.i .i64 1) (ρ.z.rl 0).length) : Int) 1)) ∧ (0 : Int) = clampK .i64 (intV (celV (ρ.z.rl 0) ((findN (ρ.z.rl 0) (ρ.i .i64 1) (ρ.z.rl 0).length) : Int) 2))) ∨ (false = false ∧ (ρ.z.rl 0).length ≤ (findN (ρ.z.rl 0) (ρ.i .i64 1) (ρ.z.rl 0).length))) ∧ ((true = true ∧ (writeN (ρ.z.rl 0) (ρ.z.rl 0).length) < (ρ.z.rl 0).length ∧ (clampK .i64 (intV (celV (ρ.z.rl 0) (clampK .i64 (ρ.z.F.i 4 [.lst (ρ.z.rl 0)])) 0))) = clampK .i64 (intV (celV (ρ.z.rl 0) ((writeN (ρ.z.rl 0) (ρ.z.rl 0).length) : Int) 0)) ∧ (clampK .i64 (intV (celV (ρ.z.rl 0) (clampK .i64 (ρ.z.F.i 4 [.lst (ρ.z.rl 0)])) 1))) = clampK .i64 (intV (celV (ρ.z.rl 0) ((writeN (ρ.z.rl 0) (ρ.z.rl 0).length) : Int) 1)) ∧ (clampK .i64 (intV (celV (ρ.z.rl 0) (clampK .i64 (ρ.z.F.i 4 [.lst (ρ.z.rl 0)])) 2))) = clampK .i64 (intV (celV (ρ.z.rl 0) ((writeN (ρ.z.rl 0) (ρ.z.rl 0).length) : Int) 2))) ∨ (true = false ∧ (ρ.z.rl 0).length ≤ (writeN (ρ.z.rl 0) (ρ.z.rl 0).length))) ∧ ((0 ≤ (ρ.i .i64 2) ∧ (ρ.i .i64 2) ≤ 5 ∧ (2 : Int) = 0 ∧ false = fitsAll (ρ.z.rl 0) 2 (ρ.i .i64 2) (ρ.z.rl 0).length) ∨ (((ρ.i .i64 2) < 0 ∨ 5 < (ρ.i .i64 2)) ∧ (2 : Int) = 2 ∧ false = false)) ∧ (((-1 : Int) = -1 ∧ writeN (ρ.z.rl 0) (0 : Int).toNat = (0 : Int).toNat) ∨ (0 ≤ (-1 : Int) ∧ (-1 : Int) < (0 : Int) ∧ atI (ρ.z.rl 0) (-1 : Int).toNat 2 = 5))) ∧ (((ρ.z.rl 0).length - (0 : Int).toNat : Nat) < (ρ.z.rl 0).length + 1) from ?_)
  simp only [hF, pi1, pi2, pi3, pi4, pl2, pb1, pb2, pb3, pb4, pb5, pb6]
  have bN : findN (ρ.z.rl 0) (ρ.i .i64 1) (ρ.z.rl 0).length ≤ (ρ.z.rl 0).length := first_le _ _
  have bW : writeN (ρ.z.rl 0) (ρ.z.rl 0).length ≤ (ρ.z.rl 0).length := first_le _ _
  have cN : clampK .i64 ((findN (ρ.z.rl 0) (ρ.i .i64 1) (ρ.z.rl 0).length : Nat) : Int) = ((findN (ρ.z.rl 0) (ρ.i .i64 1) (ρ.z.rl 0).length : Nat) : Int) := clampS (by omega) (by omega)
  have cW : clampK .i64 ((writeN (ρ.z.rl 0) (ρ.z.rl 0).length : Nat) : Int) = ((writeN (ρ.z.rl 0) (ρ.z.rl 0).length : Nat) : Int) := clampS (by omega) (by omega)
  simp only [cN, cW] at *
  refine ⟨⟨?_, ?_, ?_, .inl ⟨(by first | rfl | trivial), (by first | rfl | trivial)⟩⟩, by omega⟩
  · first | exact .inl ⟨(by first | rfl | trivial), by omega, (by first | rfl | trivial), (by first | rfl | trivial), (by first | rfl | trivial)⟩ | exact .inr ⟨(by first | rfl | trivial), by omega⟩
  · first | exact .inl ⟨(by first | rfl | trivial), by omega, (by first | rfl | trivial), (by first | rfl | trivial), (by first | rfl | trivial)⟩ | exact .inr ⟨(by first | rfl | trivial), by omega⟩
  · first | exact .inl ⟨by omega, by omega, (by first | rfl | trivial), (by first | rfl | trivial)⟩ | exact .inr ⟨by omega, (by first | rfl | trivial), (by first | rfl | trivial)⟩
theorem vcasks0_6 : VC TTasks invasks msasks 0 (startF 11 cAsks.pat (.lit true :: cAsks.pre)) wasks0_6 := by
  intro ρ kn hi hp
  have hF : ρ.z.F = hold.Φ := kn.F
  simp only [h_nil, h_cons, d_le, d_eq, d_not, d_var, d_lit, d_cel, d_leq, d_fn, d_and, d_iff, IE.den, LE.den, AL.den, lenV, true_and, and_true, pcasks0_11, pcasks0_7, pcasks0_5, pcasks0_2, pcasks0_1, pcasks0_0, hF, pi1, pi2, pi3, pi4, pl2, pb1, pb2, pb3, pb4, pb5, pb6] at hp
  obtain ⟨p1, p2, p3, p4, p5, p6, p7, p8, p9, p10, p11, p12, p13⟩ := hp
  refine (show (((true = true ∧ (findN (ρ.z.rl 0) (ρ.i .i64 1) (ρ.z.rl 0).length) < (ρ.z.rl 0).length ∧ (clampK .i64 (intV (celV (ρ.z.rl 0) (clampK .i64 (ρ.z.F.i 2 [.lst (ρ.z.rl 0), .int .i64 (ρ.i .i64 1)])) 0))) = clampK .i64 (intV (celV (ρ.z.rl 0) ((findN (ρ.z.rl 0) (ρ.i .i64 1) (ρ.z.rl 0).length) : Int) 0)) ∧ (clampK .i64 (intV (celV (ρ.z.rl 0) (clampK .i64 (ρ.z.F.i 2 [.lst (ρ.z.rl 0), .int .i64 (ρ.i .i64 1)])) 1))) = clampK .i64 (intV (celV (ρ.z.rl 0) ((findN (ρ.z.rl 0) (ρ.i .i64 1) (ρ.z.rl 0).length) : Int) 1)) ∧ (clampK .i64 (intV (celV (ρ.z.rl 0) (clampK .i64 (ρ.z.F.i 2 [.lst (ρ.z.rl 0), .int .i64 (ρ.i .i64 1)])) 2))) = clampK .i64 (intV (celV (ρ.z.rl 0) ((findN (ρ.z.rl 0) (ρ.i .i64 1) (ρ.z.rl 0).length) : Int) 2))) ∨ (true = false ∧ (ρ.z.rl 0).length ≤ (findN (ρ.z.rl 0) (ρ.i .i64 1) (ρ.z.rl 0).length))) ∧ ((false = true ∧ (writeN (ρ.z.rl 0) (ρ.z.rl 0).length) < (ρ.z.rl 0).length ∧ (0 : Int) = clampK .i64 (intV (celV (ρ.z.rl 0) ((writeN (ρ.z.rl 0) (ρ.z.rl 0).length) : Int) 0)) ∧ (0 : Int) = clampK .i64 (intV (celV (ρ.z.rl 0) ((writeN (ρ.z.rl 0) (ρ.z.rl 0).length) : Int) 1)) ∧ (0 : Int) = clampK .i64 (intV (celV (ρ.z.rl 0) ((writeN (ρ.z.rl 0) (ρ.z.rl 0).length) : Int) 2))) ∨ (false = false ∧ (ρ.z.rl 0).length ≤ (writeN (ρ.z.rl 0) (ρ.z.rl 0).length))) ∧ ((0 ≤ (ρ.i .i64 2) ∧ (ρ.i .i64 2) ≤ 5 ∧ (2 : Int) = 0 ∧ false = fitsAll (ρ.z.rl 0) 2 (ρ.i .i64 2) (ρ.z.rl 0).length) ∨ (((ρ.i .i64 2) < 0 ∨ 5 < (ρ.i .i64 2)) ∧ (2 : Int) = 2 ∧ false = false)) ∧ (((-1 : Int) = -1 ∧ writeN (ρ.z.rl 0) (0 : Int).toNat = (0 : Int).toNat) ∨ (0 ≤ (-1 : Int) ∧ (-1 : Int) < (0 : Int) ∧ atI (ρ.z.rl 0) (-1 : Int).toNat 2 = 5))) ∧ (((ρ.z.rl 0).length - (0 : Int).toNat : Nat) < (ρ.z.rl 0).length + 1) from ?_)
  simp only [hF, pi1, pi2, pi3, pi4, pl2, pb1, pb2, pb3, pb4, pb5, pb6]
  have bN : findN (ρ.z.rl 0) (ρ.i .i64 1) (ρ.z.rl 0).length ≤ (ρ.z.rl 0).length := first_le _ _
  have bW : writeN (ρ.z.rl 0) (ρ.z.rl 0).length ≤ (ρ.z.rl 0).length := first_le _ _
  have cN : clampK .i64 ((findN (ρ.z.rl 0) (ρ.i .i64 1) (ρ.z.rl 0).length : Nat) : Int) = ((findN (ρ.z.rl 0) (ρ.i .i64 1) (ρ.z.rl 0).length : Nat) : Int) := clampS (by omega) (by omega)
  have cW : clampK .i64 ((writeN (ρ.z.rl 0) (ρ.z.rl 0).length : Nat) : Int) = ((writeN (ρ.z.rl 0) (ρ.z.rl 0).length : Nat) : Int) := clampS (by omega) (by omega)
  simp only [cN, cW] at *
  refine ⟨⟨?_, ?_, ?_, .inl ⟨(by first | rfl | trivial), (by first | rfl | trivial)⟩⟩, by omega⟩
  · first | exact .inl ⟨(by first | rfl | trivial), by omega, (by first | rfl | trivial), (by first | rfl | trivial), (by first | rfl | trivial)⟩ | exact .inr ⟨(by first | rfl | trivial), by omega⟩
  · first | exact .inl ⟨(by first | rfl | trivial), by omega, (by first | rfl | trivial), (by first | rfl | trivial), (by first | rfl | trivial)⟩ | exact .inr ⟨(by first | rfl | trivial), by omega⟩
  · first | exact .inl ⟨by omega, by omega, (by first | rfl | trivial), (by first | rfl | trivial)⟩ | exact .inr ⟨by omega, (by first | rfl | trivial), (by first | rfl | trivial)⟩
theorem vcasks0_7 : VC TTasks invasks msasks 0 (startF 11 cAsks.pat (.lit true :: cAsks.pre)) wasks0_7 := by
  intro ρ kn hi hp
  have hF : ρ.z.F = hold.Φ := kn.F
  simp only [h_nil, h_cons, d_le, d_eq, d_not, d_var, d_lit, d_cel, d_leq, d_fn, d_and, d_iff, IE.den, LE.den, AL.den, lenV, true_and, and_true, pcasks0_11, pcasks0_7, pcasks0_5, pcasks0_2, pcasks0_1, pcasks0_0, hF, pi1, pi2, pi3, pi4, pl2, pb1, pb2, pb3, pb4, pb5, pb6] at hp
  obtain ⟨p1, p2, p3, p4, p5, p6, p7, p8, p9, p10, p11, p12, p13⟩ := hp
  refine (show (((true = true ∧ (findN (ρ.z.rl 0) (ρ.i .i64 1) (ρ.z.rl 0).length) < (ρ.z.rl 0).length ∧ (clampK .i64 (intV (celV (ρ.z.rl 0) (clampK .i64 (ρ.z.F.i 2 [.lst (ρ.z.rl 0), .int .i64 (ρ.i .i64 1)])) 0))) = clampK .i64 (intV (celV (ρ.z.rl 0) ((findN (ρ.z.rl 0) (ρ.i .i64 1) (ρ.z.rl 0).length) : Int) 0)) ∧ (clampK .i64 (intV (celV (ρ.z.rl 0) (clampK .i64 (ρ.z.F.i 2 [.lst (ρ.z.rl 0), .int .i64 (ρ.i .i64 1)])) 1))) = clampK .i64 (intV (celV (ρ.z.rl 0) ((findN (ρ.z.rl 0) (ρ.i .i64 1) (ρ.z.rl 0).length) : Int) 1)) ∧ (clampK .i64 (intV (celV (ρ.z.rl 0) (clampK .i64 (ρ.z.F.i 2 [.lst (ρ.z.rl 0), .int .i64 (ρ.i .i64 1)])) 2))) = clampK .i64 (intV (celV (ρ.z.rl 0) ((findN (ρ.z.rl 0) (ρ.i .i64 1) (ρ.z.rl 0).length) : Int) 2))) ∨ (true = false ∧ (ρ.z.rl 0).length ≤ (findN (ρ.z.rl 0) (ρ.i .i64 1) (ρ.z.rl 0).length))) ∧ ((true = true ∧ (writeN (ρ.z.rl 0) (ρ.z.rl 0).length) < (ρ.z.rl 0).length ∧ (clampK .i64 (intV (celV (ρ.z.rl 0) (clampK .i64 (ρ.z.F.i 4 [.lst (ρ.z.rl 0)])) 0))) = clampK .i64 (intV (celV (ρ.z.rl 0) ((writeN (ρ.z.rl 0) (ρ.z.rl 0).length) : Int) 0)) ∧ (clampK .i64 (intV (celV (ρ.z.rl 0) (clampK .i64 (ρ.z.F.i 4 [.lst (ρ.z.rl 0)])) 1))) = clampK .i64 (intV (celV (ρ.z.rl 0) ((writeN (ρ.z.rl 0) (ρ.z.rl 0).length) : Int) 1)) ∧ (clampK .i64 (intV (celV (ρ.z.rl 0) (clampK .i64 (ρ.z.F.i 4 [.lst (ρ.z.rl 0)])) 2))) = clampK .i64 (intV (celV (ρ.z.rl 0) ((writeN (ρ.z.rl 0) (ρ.z.rl 0).length) : Int) 2))) ∨ (true = false ∧ (ρ.z.rl 0).length ≤ (writeN (ρ.z.rl 0) (ρ.z.rl 0).length))) ∧ ((0 ≤ (ρ.i .i64 2) ∧ (ρ.i .i64 2) ≤ 5 ∧ (2 : Int) = 0 ∧ false = fitsAll (ρ.z.rl 0) 2 (ρ.i .i64 2) (ρ.z.rl 0).length) ∨ (((ρ.i .i64 2) < 0 ∨ 5 < (ρ.i .i64 2)) ∧ (2 : Int) = 2 ∧ false = false)) ∧ (((-1 : Int) = -1 ∧ writeN (ρ.z.rl 0) (0 : Int).toNat = (0 : Int).toNat) ∨ (0 ≤ (-1 : Int) ∧ (-1 : Int) < (0 : Int) ∧ atI (ρ.z.rl 0) (-1 : Int).toNat 2 = 5))) ∧ (((ρ.z.rl 0).length - (0 : Int).toNat : Nat) < (ρ.z.rl 0).length + 1) from ?_)
  simp only [hF, pi1, pi2, pi3, pi4, pl2, pb1, pb2, pb3, pb4, pb5, pb6]
  have bN : findN (ρ.z.rl 0) (ρ.i .i64 1) (ρ.z.rl 0).length ≤ (ρ.z.rl 0).length := first_le _ _
  have bW : writeN (ρ.z.rl 0) (ρ.z.rl 0).length ≤ (ρ.z.rl 0).length := first_le _ _
  have cN : clampK .i64 ((findN (ρ.z.rl 0) (ρ.i .i64 1) (ρ.z.rl 0).length : Nat) : Int) = ((findN (ρ.z.rl 0) (ρ.i .i64 1) (ρ.z.rl 0).length : Nat) : Int) := clampS (by omega) (by omega)
  have cW : clampK .i64 ((writeN (ρ.z.rl 0) (ρ.z.rl 0).length : Nat) : Int) = ((writeN (ρ.z.rl 0) (ρ.z.rl 0).length : Nat) : Int) := clampS (by omega) (by omega)
  simp only [cN, cW] at *
  refine ⟨⟨?_, ?_, ?_, .inl ⟨(by first | rfl | trivial), (by first | rfl | trivial)⟩⟩, by omega⟩
  · first | exact .inl ⟨(by first | rfl | trivial), by omega, (by first | rfl | trivial), (by first | rfl | trivial), (by first | rfl | trivial)⟩ | exact .inr ⟨(by first | rfl | trivial), by omega⟩
  · first | exact .inl ⟨(by first | rfl | trivial), by omega, (by first | rfl | trivial), (by first | rfl | trivial), (by first | rfl | trivial)⟩ | exact .inr ⟨(by first | rfl | trivial), by omega⟩
  · first | exact .inl ⟨by omega, by omega, (by first | rfl | trivial), (by first | rfl | trivial)⟩ | exact .inr ⟨by omega, (by first | rfl | trivial), (by first | rfl | trivial)⟩
theorem vcasks0_8 : VC TTasks invasks msasks 0 (startF 11 cAsks.pat (.lit true :: cAsks.pre)) wasks0_8 := by
  intro ρ kn hi hp
  have hF : ρ.z.F = hold.Φ := kn.F
  simp only [h_nil, h_cons, d_le, d_eq, d_not, d_var, d_lit, d_cel, d_leq, d_fn, d_and, d_iff, IE.den, LE.den, AL.den, lenV, true_and, and_true, pcasks0_12, pcasks0_7, pcasks0_5, pcasks0_2, pcasks0_1, pcasks0_0, hF, pi1, pi2, pi3, pi4, pl2, pb1, pb2, pb3, pb4, pb5, pb6] at hp
  obtain ⟨p1, p2, p3, p4, p5, p6, p7, p8, p9, p10, p11, p12, p13⟩ := hp
  refine (show (((true = true ∧ (findN (ρ.z.rl 0) (ρ.i .i64 1) (ρ.z.rl 0).length) < (ρ.z.rl 0).length ∧ (clampK .i64 (intV (celV (ρ.z.rl 0) (clampK .i64 (ρ.z.F.i 2 [.lst (ρ.z.rl 0), .int .i64 (ρ.i .i64 1)])) 0))) = clampK .i64 (intV (celV (ρ.z.rl 0) ((findN (ρ.z.rl 0) (ρ.i .i64 1) (ρ.z.rl 0).length) : Int) 0)) ∧ (clampK .i64 (intV (celV (ρ.z.rl 0) (clampK .i64 (ρ.z.F.i 2 [.lst (ρ.z.rl 0), .int .i64 (ρ.i .i64 1)])) 1))) = clampK .i64 (intV (celV (ρ.z.rl 0) ((findN (ρ.z.rl 0) (ρ.i .i64 1) (ρ.z.rl 0).length) : Int) 1)) ∧ (clampK .i64 (intV (celV (ρ.z.rl 0) (clampK .i64 (ρ.z.F.i 2 [.lst (ρ.z.rl 0), .int .i64 (ρ.i .i64 1)])) 2))) = clampK .i64 (intV (celV (ρ.z.rl 0) ((findN (ρ.z.rl 0) (ρ.i .i64 1) (ρ.z.rl 0).length) : Int) 2))) ∨ (true = false ∧ (ρ.z.rl 0).length ≤ (findN (ρ.z.rl 0) (ρ.i .i64 1) (ρ.z.rl 0).length))) ∧ ((false = true ∧ (writeN (ρ.z.rl 0) (ρ.z.rl 0).length) < (ρ.z.rl 0).length ∧ (0 : Int) = clampK .i64 (intV (celV (ρ.z.rl 0) ((writeN (ρ.z.rl 0) (ρ.z.rl 0).length) : Int) 0)) ∧ (0 : Int) = clampK .i64 (intV (celV (ρ.z.rl 0) ((writeN (ρ.z.rl 0) (ρ.z.rl 0).length) : Int) 1)) ∧ (0 : Int) = clampK .i64 (intV (celV (ρ.z.rl 0) ((writeN (ρ.z.rl 0) (ρ.z.rl 0).length) : Int) 2))) ∨ (false = false ∧ (ρ.z.rl 0).length ≤ (writeN (ρ.z.rl 0) (ρ.z.rl 0).length))) ∧ ((0 ≤ (ρ.i .i64 2) ∧ (ρ.i .i64 2) ≤ 5 ∧ (0 : Int) = 0 ∧ (ρ.z.F.b 5 [.lst (ρ.z.rl 0), .int .i64 (ρ.i .i64 2)]) = fitsAll (ρ.z.rl 0) 2 (ρ.i .i64 2) (ρ.z.rl 0).length) ∨ (((ρ.i .i64 2) < 0 ∨ 5 < (ρ.i .i64 2)) ∧ (0 : Int) = 2 ∧ (ρ.z.F.b 5 [.lst (ρ.z.rl 0), .int .i64 (ρ.i .i64 2)]) = false)) ∧ (((-1 : Int) = -1 ∧ writeN (ρ.z.rl 0) (0 : Int).toNat = (0 : Int).toNat) ∨ (0 ≤ (-1 : Int) ∧ (-1 : Int) < (0 : Int) ∧ atI (ρ.z.rl 0) (-1 : Int).toNat 2 = 5))) ∧ (((ρ.z.rl 0).length - (0 : Int).toNat : Nat) < (ρ.z.rl 0).length + 1) from ?_)
  simp only [hF, pi1, pi2, pi3, pi4, pl2, pb1, pb2, pb3, pb4, pb5, pb6]
  have bN : findN (ρ.z.rl 0) (ρ.i .i64 1) (ρ.z.rl 0).length ≤ (ρ.z.rl 0).length := first_le _ _
  have bW : writeN (ρ.z.rl 0) (ρ.z.rl 0).length ≤ (ρ.z.rl 0).length := first_le _ _
  have cN : clampK .i64 ((findN (ρ.z.rl 0) (ρ.i .i64 1) (ρ.z.rl 0).length : Nat) : Int) = ((findN (ρ.z.rl 0) (ρ.i .i64 1) (ρ.z.rl 0).length : Nat) : Int) := clampS (by omega) (by omega)
  have cW : clampK .i64 ((writeN (ρ.z.rl 0) (ρ.z.rl 0).length : Nat) : Int) = ((writeN (ρ.z.rl 0) (ρ.z.rl 0).length : Nat) : Int) := clampS (by omega) (by omega)
  simp only [cN, cW] at *
  refine ⟨⟨?_, ?_, ?_, .inl ⟨(by first | rfl | trivial), (by first | rfl | trivial)⟩⟩, by omega⟩
  · first | exact .inl ⟨(by first | rfl | trivial), by omega, (by first | rfl | trivial), (by first | rfl | trivial), (by first | rfl | trivial)⟩ | exact .inr ⟨(by first | rfl | trivial), by omega⟩
  · first | exact .inl ⟨(by first | rfl | trivial), by omega, (by first | rfl | trivial), (by first | rfl | trivial), (by first | rfl | trivial)⟩ | exact .inr ⟨(by first | rfl | trivial), by omega⟩
  · first | exact .inl ⟨by omega, by omega, (by first | rfl | trivial), (by first | rfl | trivial)⟩ | exact .inr ⟨by omega, (by first | rfl | trivial), (by first | rfl | trivial)⟩
theorem vcasks0_9 : VC TTasks invasks msasks 0 (startF 11 cAsks.pat (.lit true :: cAsks.pre)) wasks0_9 := by
  intro ρ kn hi hp
  have hF : ρ.z.F = hold.Φ := kn.F
  simp only [h_nil, h_cons, d_le, d_eq, d_not, d_var, d_lit, d_cel, d_leq, d_fn, d_and, d_iff, IE.den, LE.den, AL.den, lenV, true_and, and_true, pcasks0_12, pcasks0_7, pcasks0_5, pcasks0_2, pcasks0_1, pcasks0_0, hF, pi1, pi2, pi3, pi4, pl2, pb1, pb2, pb3, pb4, pb5, pb6] at hp
  obtain ⟨p1, p2, p3, p4, p5, p6, p7, p8, p9, p10, p11, p12, p13⟩ := hp
  refine (show (((true = true ∧ (findN (ρ.z.rl 0) (ρ.i .i64 1) (ρ.z.rl 0).length) < (ρ.z.rl 0).length ∧ (clampK .i64 (intV (celV (ρ.z.rl 0) (clampK .i64 (ρ.z.F.i 2 [.lst (ρ.z.rl 0), .int .i64 (ρ.i .i64 1)])) 0))) = clampK .i64 (intV (celV (ρ.z.rl 0) ((findN (ρ.z.rl 0) (ρ.i .i64 1) (ρ.z.rl 0).length) : Int) 0)) ∧ (clampK .i64 (intV (celV (ρ.z.rl 0) (clampK .i64 (ρ.z.F.i 2 [.lst (ρ.z.rl 0), .int .i64 (ρ.i .i64 1)])) 1))) = clampK .i64 (intV (celV (ρ.z.rl 0) ((findN (ρ.z.rl 0) (ρ.i .i64 1) (ρ.z.rl 0).length) : Int) 1)) ∧ (clampK .i64 (intV (celV (ρ.z.rl 0) (clampK .i64 (ρ.z.F.i 2 [.lst (ρ.z.rl 0), .int .i64 (ρ.i .i64 1)])) 2))) = clampK .i64 (intV (celV (ρ.z.rl 0) ((findN (ρ.z.rl 0) (ρ.i .i64 1) (ρ.z.rl 0).length) : Int) 2))) ∨ (true = false ∧ (ρ.z.rl 0).length ≤ (findN (ρ.z.rl 0) (ρ.i .i64 1) (ρ.z.rl 0).length))) ∧ ((true = true ∧ (writeN (ρ.z.rl 0) (ρ.z.rl 0).length) < (ρ.z.rl 0).length ∧ (clampK .i64 (intV (celV (ρ.z.rl 0) (clampK .i64 (ρ.z.F.i 4 [.lst (ρ.z.rl 0)])) 0))) = clampK .i64 (intV (celV (ρ.z.rl 0) ((writeN (ρ.z.rl 0) (ρ.z.rl 0).length) : Int) 0)) ∧ (clampK .i64 (intV (celV (ρ.z.rl 0) (clampK .i64 (ρ.z.F.i 4 [.lst (ρ.z.rl 0)])) 1))) = clampK .i64 (intV (celV (ρ.z.rl 0) ((writeN (ρ.z.rl 0) (ρ.z.rl 0).length) : Int) 1)) ∧ (clampK .i64 (intV (celV (ρ.z.rl 0) (clampK .i64 (ρ.z.F.i 4 [.lst (ρ.z.rl 0)])) 2))) = clampK .i64 (intV (celV (ρ.z.rl 0) ((writeN (ρ.z.rl 0) (ρ.z.rl 0).length) : Int) 2))) ∨ (true = false ∧ (ρ.z.rl 0).length ≤ (writeN (ρ.z.rl 0) (ρ.z.rl 0).length))) ∧ ((0 ≤ (ρ.i .i64 2) ∧ (ρ.i .i64 2) ≤ 5 ∧ (0 : Int) = 0 ∧ (ρ.z.F.b 5 [.lst (ρ.z.rl 0), .int .i64 (ρ.i .i64 2)]) = fitsAll (ρ.z.rl 0) 2 (ρ.i .i64 2) (ρ.z.rl 0).length) ∨ (((ρ.i .i64 2) < 0 ∨ 5 < (ρ.i .i64 2)) ∧ (0 : Int) = 2 ∧ (ρ.z.F.b 5 [.lst (ρ.z.rl 0), .int .i64 (ρ.i .i64 2)]) = false)) ∧ (((-1 : Int) = -1 ∧ writeN (ρ.z.rl 0) (0 : Int).toNat = (0 : Int).toNat) ∨ (0 ≤ (-1 : Int) ∧ (-1 : Int) < (0 : Int) ∧ atI (ρ.z.rl 0) (-1 : Int).toNat 2 = 5))) ∧ (((ρ.z.rl 0).length - (0 : Int).toNat : Nat) < (ρ.z.rl 0).length + 1) from ?_)
  simp only [hF, pi1, pi2, pi3, pi4, pl2, pb1, pb2, pb3, pb4, pb5, pb6]
  have bN : findN (ρ.z.rl 0) (ρ.i .i64 1) (ρ.z.rl 0).length ≤ (ρ.z.rl 0).length := first_le _ _
  have bW : writeN (ρ.z.rl 0) (ρ.z.rl 0).length ≤ (ρ.z.rl 0).length := first_le _ _
  have cN : clampK .i64 ((findN (ρ.z.rl 0) (ρ.i .i64 1) (ρ.z.rl 0).length : Nat) : Int) = ((findN (ρ.z.rl 0) (ρ.i .i64 1) (ρ.z.rl 0).length : Nat) : Int) := clampS (by omega) (by omega)
  have cW : clampK .i64 ((writeN (ρ.z.rl 0) (ρ.z.rl 0).length : Nat) : Int) = ((writeN (ρ.z.rl 0) (ρ.z.rl 0).length : Nat) : Int) := clampS (by omega) (by omega)
  simp only [cN, cW] at *
  refine ⟨⟨?_, ?_, ?_, .inl ⟨(by first | rfl | trivial), (by first | rfl | trivial)⟩⟩, by omega⟩
  · first | exact .inl ⟨(by first | rfl | trivial), by omega, (by first | rfl | trivial), (by first | rfl | trivial), (by first | rfl | trivial)⟩ | exact .inr ⟨(by first | rfl | trivial), by omega⟩
  · first | exact .inl ⟨(by first | rfl | trivial), by omega, (by first | rfl | trivial), (by first | rfl | trivial), (by first | rfl | trivial)⟩ | exact .inr ⟨(by first | rfl | trivial), by omega⟩
  · first | exact .inl ⟨by omega, by omega, (by first | rfl | trivial), (by first | rfl | trivial)⟩ | exact .inr ⟨by omega, (by first | rfl | trivial), (by first | rfl | trivial)⟩
theorem vcasks0_10 : VC TTasks invasks msasks 0 (startF 11 cAsks.pat (.lit true :: cAsks.pre)) wasks0_10 := by
  intro ρ kn hi hp
  have hF : ρ.z.F = hold.Φ := kn.F
  simp only [h_nil, h_cons, d_le, d_eq, d_not, d_var, d_lit, d_cel, d_leq, d_fn, d_and, d_iff, IE.den, LE.den, AL.den, lenV, true_and, and_true, pcasks0_10, pcasks0_5, pcasks0_2, pcasks0_1, pcasks0_0, hF, pi1, pi2, pi3, pi4, pl2, pb1, pb2, pb3, pb4, pb5, pb6] at hp
  obtain ⟨p1, p2, p3, p4, p5, p6, p7, p8, p9, p10, p11, p12⟩ := hp
  refine (show (((true = true ∧ (findN (ρ.z.rl 0) (ρ.i .i64 1) (ρ.z.rl 0).length) < (ρ.z.rl 0).length ∧ (clampK .i64 (intV (celV (ρ.z.rl 0) (clampK .i64 (ρ.z.F.i 2 [.lst (ρ.z.rl 0), .int .i64 (ρ.i .i64 1)])) 0))) = clampK .i64 (intV (celV (ρ.z.rl 0) ((findN (ρ.z.rl 0) (ρ.i .i64 1) (ρ.z.rl 0).length) : Int) 0)) ∧ (clampK .i64 (intV (celV (ρ.z.rl 0) (clampK .i64 (ρ.z.F.i 2 [.lst (ρ.z.rl 0), .int .i64 (ρ.i .i64 1)])) 1))) = clampK .i64 (intV (celV (ρ.z.rl 0) ((findN (ρ.z.rl 0) (ρ.i .i64 1) (ρ.z.rl 0).length) : Int) 1)) ∧ (clampK .i64 (intV (celV (ρ.z.rl 0) (clampK .i64 (ρ.z.F.i 2 [.lst (ρ.z.rl 0), .int .i64 (ρ.i .i64 1)])) 2))) = clampK .i64 (intV (celV (ρ.z.rl 0) ((findN (ρ.z.rl 0) (ρ.i .i64 1) (ρ.z.rl 0).length) : Int) 2))) ∨ (true = false ∧ (ρ.z.rl 0).length ≤ (findN (ρ.z.rl 0) (ρ.i .i64 1) (ρ.z.rl 0).length))) ∧ ((false = true ∧ (writeN (ρ.z.rl 0) (ρ.z.rl 0).length) < (ρ.z.rl 0).length ∧ (0 : Int) = clampK .i64 (intV (celV (ρ.z.rl 0) ((writeN (ρ.z.rl 0) (ρ.z.rl 0).length) : Int) 0)) ∧ (0 : Int) = clampK .i64 (intV (celV (ρ.z.rl 0) ((writeN (ρ.z.rl 0) (ρ.z.rl 0).length) : Int) 1)) ∧ (0 : Int) = clampK .i64 (intV (celV (ρ.z.rl 0) ((writeN (ρ.z.rl 0) (ρ.z.rl 0).length) : Int) 2))) ∨ (false = false ∧ (ρ.z.rl 0).length ≤ (writeN (ρ.z.rl 0) (ρ.z.rl 0).length))) ∧ ((0 ≤ (ρ.i .i64 2) ∧ (ρ.i .i64 2) ≤ 5 ∧ (2 : Int) = 0 ∧ false = fitsAll (ρ.z.rl 0) 2 (ρ.i .i64 2) (ρ.z.rl 0).length) ∨ (((ρ.i .i64 2) < 0 ∨ 5 < (ρ.i .i64 2)) ∧ (2 : Int) = 2 ∧ false = false)) ∧ (((-1 : Int) = -1 ∧ writeN (ρ.z.rl 0) (0 : Int).toNat = (0 : Int).toNat) ∨ (0 ≤ (-1 : Int) ∧ (-1 : Int) < (0 : Int) ∧ atI (ρ.z.rl 0) (-1 : Int).toNat 2 = 5))) ∧ (((ρ.z.rl 0).length - (0 : Int).toNat : Nat) < (ρ.z.rl 0).length + 1) from ?_)
  simp only [hF, pi1, pi2, pi3, pi4, pl2, pb1, pb2, pb3, pb4, pb5, pb6]
  have bN : findN (ρ.z.rl 0) (ρ.i .i64 1) (ρ.z.rl 0).length ≤ (ρ.z.rl 0).length := first_le _ _
  have bW : writeN (ρ.z.rl 0) (ρ.z.rl 0).length ≤ (ρ.z.rl 0).length := first_le _ _
  have cN : clampK .i64 ((findN (ρ.z.rl 0) (ρ.i .i64 1) (ρ.z.rl 0).length : Nat) : Int) = ((findN (ρ.z.rl 0) (ρ.i .i64 1) (ρ.z.rl 0).length : Nat) : Int) := clampS (by omega) (by omega)
  have cW : clampK .i64 ((writeN (ρ.z.rl 0) (ρ.z.rl 0).length : Nat) : Int) = ((writeN (ρ.z.rl 0) (ρ.z.rl 0).length : Nat) : Int) := clampS (by omega) (by omega)
  simp only [cN, cW] at *
  refine ⟨⟨?_, ?_, ?_, .inl ⟨(by first | rfl | trivial), (by first | rfl | trivial)⟩⟩, by omega⟩
  · first | exact .inl ⟨(by first | rfl | trivial), by omega, (by first | rfl | trivial), (by first | rfl | trivial), (by first | rfl | trivial)⟩ | exact .inr ⟨(by first | rfl | trivial), by omega⟩
  · first | exact .inl ⟨(by first | rfl | trivial), by omega, (by first | rfl | trivial), (by first | rfl | trivial), (by first | rfl | trivial)⟩ | exact .inr ⟨(by first | rfl | trivial), by omega⟩
  · first | exact .inl ⟨by omega, by omega, (by first | rfl | trivial), (by first | rfl | trivial)⟩ | exact .inr ⟨by omega, (by first | rfl | trivial), (by first | rfl | trivial)⟩
theorem vcasks0_11 : VC TTasks invasks msasks 0 (startF 11 cAsks.pat (.lit true :: cAsks.pre)) wasks0_11 := by
  intro ρ kn hi hp
  have hF : ρ.z.F = hold.Φ := kn.F
  simp only [h_nil, h_cons, d_le, d_eq, d_not, d_var, d_lit, d_cel, d_leq, d_fn, d_and, d_iff, IE.den, LE.den, AL.den, lenV, true_and, and_true, pcasks0_10, pcasks0_5, pcasks0_2, pcasks0_1, pcasks0_0, hF, pi1, pi2, pi3, pi4, pl2, pb1, pb2, pb3, pb4, pb5, pb6] at hp
  obtain ⟨p1, p2, p3, p4, p5, p6, p7, p8, p9, p10, p11, p12⟩ := hp
  refine (show (((true = true ∧ (findN (ρ.z.rl 0) (ρ.i .i64 1) (ρ.z.rl 0).length) < (ρ.z.rl 0).length ∧ (clampK .i64 (intV (celV (ρ.z.rl 0) (clampK .i64 (ρ.z.F.i 2 [.lst (ρ.z.rl 0), .int .i64 (ρ.i .i64 1)])) 0))) = clampK .i64 (intV (celV (ρ.z.rl 0) ((findN (ρ.z.rl 0) (ρ.i .i64 1) (ρ.z.rl 0).length) : Int) 0)) ∧ (clampK .i64 (intV (celV (ρ.z.rl 0) (clampK .i64 (ρ.z.F.i 2 [.lst (ρ.z.rl 0), .int .i64 (ρ.i .i64 1)])) 1))) = clampK .i64 (intV (celV (ρ.z.rl 0) ((findN (ρ.z.rl 0) (ρ.i .i64 1) (ρ.z.rl 0).length) : Int) 1)) ∧ (clampK .i64 (intV (celV (ρ.z.rl 0) (clampK .i64 (ρ.z.F.i 2 [.lst (ρ.z.rl 0), .int .i64 (ρ.i .i64 1)])) 2))) = clampK .i64 (intV (celV (ρ.z.rl 0) ((findN (ρ.z.rl 0) (ρ.i .i64 1) (ρ.z.rl 0).length) : Int) 2))) ∨ (true = false ∧ (ρ.z.rl 0).length ≤ (findN (ρ.z.rl 0) (ρ.i .i64 1) (ρ.z.rl 0).length))) ∧ ((true = true ∧ (writeN (ρ.z.rl 0) (ρ.z.rl 0).length) < (ρ.z.rl 0).length ∧ (clampK .i64 (intV (celV (ρ.z.rl 0) (clampK .i64 (ρ.z.F.i 4 [.lst (ρ.z.rl 0)])) 0))) = clampK .i64 (intV (celV (ρ.z.rl 0) ((writeN (ρ.z.rl 0) (ρ.z.rl 0).length) : Int) 0)) ∧ (clampK .i64 (intV (celV (ρ.z.rl 0) (clampK .i64 (ρ.z.F.i 4 [.lst (ρ.z.rl 0)])) 1))) = clampK .i64 (intV (celV (ρ.z.rl 0) ((writeN (ρ.z.rl 0) (ρ.z.rl 0).length) : Int) 1)) ∧ (clampK .i64 (intV (celV (ρ.z.rl 0) (clampK .i64 (ρ.z.F.i 4 [.lst (ρ.z.rl 0)])) 2))) = clampK .i64 (intV (celV (ρ.z.rl 0) ((writeN (ρ.z.rl 0) (ρ.z.rl 0).length) : Int) 2))) ∨ (true = false ∧ (ρ.z.rl 0).length ≤ (writeN (ρ.z.rl 0) (ρ.z.rl 0).length))) ∧ ((0 ≤ (ρ.i .i64 2) ∧ (ρ.i .i64 2) ≤ 5 ∧ (2 : Int) = 0 ∧ false = fitsAll (ρ.z.rl 0) 2 (ρ.i .i64 2) (ρ.z.rl 0).length) ∨ (((ρ.i .i64 2) < 0 ∨ 5 < (ρ.i .i64 2)) ∧ (2 : Int) = 2 ∧ false = false)) ∧ (((-1 : Int) = -1 ∧ writeN (ρ.z.rl 0) (0 : Int).toNat = (0 : Int).toNat) ∨ (0 ≤ (-1 : Int) ∧ (-1 : Int) < (0 : Int) ∧ atI (ρ.z.rl 0) (-1 : Int).toNat 2 = 5))) ∧ (((ρ.z.rl 0).length - (0 : Int).toNat : Nat) < (ρ.z.rl 0).length + 1) from ?_)
  simp only [hF, pi1, pi2, pi3, pi4, pl2, pb1, pb2, pb3, pb4, pb5, pb6]
  have bN : findN (ρ.z.rl 0) (ρ.i .i64 1) (ρ.z.rl 0).length ≤ (ρ.z.rl 0).length := first_le _ _
  have bW : writeN (ρ.z.rl 0) (ρ.z.rl 0).length ≤ (ρ.z.rl 0).length := first_le _ _
  have cN : clampK .i64 ((findN (ρ.z.rl 0) (ρ.i .i64 1) (ρ.z.rl 0).length : Nat) : Int) = ((findN (ρ.z.rl 0) (ρ.i .i64 1) (ρ.z.rl 0).length : Nat) : Int) := clampS (by omega) (by omega)
  have cW : clampK .i64 ((writeN (ρ.z.rl 0) (ρ.z.rl 0).length : Nat) : Int) = ((writeN (ρ.z.rl 0) (ρ.z.rl 0).length : Nat) : Int) := clampS (by omega) (by omega)
  simp only [cN, cW] at *
  refine ⟨⟨?_, ?_, ?_, .inl ⟨(by first | rfl | trivial), (by first | rfl | trivial)⟩⟩, by omega⟩
  · first | exact .inl ⟨(by first | rfl | trivial), by omega, (by first | rfl | trivial), (by first | rfl | trivial), (by first | rfl | trivial)⟩ | exact .inr ⟨(by first | rfl | trivial), by omega⟩
  · first | exact .inl ⟨(by first | rfl | trivial), by omega, (by first | rfl | trivial), (by first | rfl | trivial), (by first | rfl | trivial)⟩ | exact .inr ⟨(by first | rfl | trivial), by omega⟩
  · first | exact .inl ⟨by omega, by omega, (by first | rfl | trivial), (by first | rfl | trivial)⟩ | exact .inr ⟨by omega, (by first | rfl | trivial), (by first | rfl | trivial)⟩
def ivasks1 (ρ : Rho) : Prop := (((ρ.b 1006) = true ∧ (findN (ρ.z.rl 0) (ρ.i .i64 1) (ρ.z.rl 0).length) < (ρ.z.rl 0).length ∧ (ρ.i .i64 1007) = clampK .i64 (intV (celV (ρ.z.rl 0) ((findN (ρ.z.rl 0) (ρ.i .i64 1) (ρ.z.rl 0).length) : Int) 0)) ∧ (ρ.i .i64 1008) = clampK .i64 (intV (celV (ρ.z.rl 0) ((findN (ρ.z.rl 0) (ρ.i .i64 1) (ρ.z.rl 0).length) : Int) 1)) ∧ (ρ.i .i64 1009) = clampK .i64 (intV (celV (ρ.z.rl 0) ((findN (ρ.z.rl 0) (ρ.i .i64 1) (ρ.z.rl 0).length) : Int) 2))) ∨ ((ρ.b 1006) = false ∧ (ρ.z.rl 0).length ≤ (findN (ρ.z.rl 0) (ρ.i .i64 1) (ρ.z.rl 0).length))) ∧ (((ρ.b 1000) = true ∧ (writeN (ρ.z.rl 0) (ρ.z.rl 0).length) < (ρ.z.rl 0).length ∧ (ρ.i .i64 1001) = clampK .i64 (intV (celV (ρ.z.rl 0) ((writeN (ρ.z.rl 0) (ρ.z.rl 0).length) : Int) 0)) ∧ (ρ.i .i64 1002) = clampK .i64 (intV (celV (ρ.z.rl 0) ((writeN (ρ.z.rl 0) (ρ.z.rl 0).length) : Int) 1)) ∧ (ρ.i .i64 1003) = clampK .i64 (intV (celV (ρ.z.rl 0) ((writeN (ρ.z.rl 0) (ρ.z.rl 0).length) : Int) 2))) ∨ ((ρ.b 1000) = false ∧ (ρ.z.rl 0).length ≤ (writeN (ρ.z.rl 0) (ρ.z.rl 0).length))) ∧ ((0 ≤ (ρ.i .i64 2) ∧ (ρ.i .i64 2) ≤ 5 ∧ (ρ.i .i64 1005) = 0 ∧ (ρ.b 1004) = fitsAll (ρ.z.rl 0) 2 (ρ.i .i64 2) (ρ.z.rl 0).length) ∨ (((ρ.i .i64 2) < 0 ∨ 5 < (ρ.i .i64 2)) ∧ (ρ.i .i64 1005) = 2 ∧ (ρ.b 1004) = false)) ∧ (((ρ.i .i64 1010) = -1 ∧ writeN (ρ.z.rl 0) (ρ.i .i64 1011).toNat = (ρ.i .i64 1011).toNat) ∨ (0 ≤ (ρ.i .i64 1010) ∧ (ρ.i .i64 1010) < (ρ.i .i64 1011) ∧ atI (ρ.z.rl 0) (ρ.i .i64 1010).toNat 2 = 5))
theorem vcgasks1_0 : VC TTasks invasks msasks 1 tasks1 wasks1_0 ∧ VC TTasks invasks msasks 1 tasks1 wasks1_2 ∧ VC TTasks invasks msasks 1 tasks1 wasks1_3 ∧ VC TTasks invasks msasks 1 tasks1 wasks1_4 ∧ VC TTasks invasks msasks 1 tasks1 wasks1_6 ∧ VC TTasks invasks msasks 1 tasks1 wasks1_7 ∧ VC TTasks invasks msasks 1 tasks1 wasks1_9 ∧ VC TTasks invasks msasks 1 tasks1 wasks1_10 ∧ VC TTasks invasks msasks 1 tasks1 wasks1_12 ∧ VC TTasks invasks msasks 1 tasks1 wasks1_14 ∧ VC TTasks invasks msasks 1 tasks1 wasks1_15 ∧ VC TTasks invasks msasks 1 tasks1 wasks1_16 ∧ VC TTasks invasks msasks 1 tasks1 wasks1_18 ∧ VC TTasks invasks msasks 1 tasks1 wasks1_19 ∧ VC TTasks invasks msasks 1 tasks1 wasks1_21 ∧ VC TTasks invasks msasks 1 tasks1 wasks1_22 ∧ VC TTasks invasks msasks 1 tasks1 wasks1_24 ∧ VC TTasks invasks msasks 1 tasks1 wasks1_25 ∧ VC TTasks invasks msasks 1 tasks1 wasks1_26 ∧ VC TTasks invasks msasks 1 tasks1 wasks1_27 ∧ VC TTasks invasks msasks 1 tasks1 wasks1_28 ∧ VC TTasks invasks msasks 1 tasks1 wasks1_29 ∧ VC TTasks invasks msasks 1 tasks1 wasks1_30 ∧ VC TTasks invasks msasks 1 tasks1 wasks1_31 ∧ VC TTasks invasks msasks 1 tasks1 wasks1_32 ∧ VC TTasks invasks msasks 1 tasks1 wasks1_33 ∧ VC TTasks invasks msasks 1 tasks1 wasks1_34 ∧ VC TTasks invasks msasks 1 tasks1 wasks1_36 ∧ VC TTasks invasks msasks 1 tasks1 wasks1_37 ∧ VC TTasks invasks msasks 1 tasks1 wasks1_38 ∧ VC TTasks invasks msasks 1 tasks1 wasks1_40 ∧ VC TTasks invasks msasks 1 tasks1 wasks1_41 ∧ VC TTasks invasks msasks 1 tasks1 wasks1_43 ∧ VC TTasks invasks msasks 1 tasks1 wasks1_44 ∧ VC TTasks invasks msasks 1 tasks1 wasks1_46 ∧ VC TTasks invasks msasks 1 tasks1 wasks1_48 ∧ VC TTasks invasks msasks 1 tasks1 wasks1_49 ∧ VC TTasks invasks msasks 1 tasks1 wasks1_50 ∧ VC TTasks invasks msasks 1 tasks1 wasks1_52 ∧ VC TTasks invasks msasks 1 tasks1 wasks1_53 ∧ VC TTasks invasks msasks 1 tasks1 wasks1_55 ∧ VC TTasks invasks msasks 1 tasks1 wasks1_56 ∧ VC TTasks invasks msasks 1 tasks1 wasks1_58 ∧ VC TTasks invasks msasks 1 tasks1 wasks1_59 ∧ VC TTasks invasks msasks 1 tasks1 wasks1_60 ∧ VC TTasks invasks msasks 1 tasks1 wasks1_61 ∧ VC TTasks invasks msasks 1 tasks1 wasks1_62 := by
  refine ⟨?_, ?_, ?_, ?_, ?_, ?_, ?_, ?_, ?_, ?_, ?_, ?_, ?_, ?_, ?_, ?_, ?_, ?_, ?_, ?_, ?_, ?_, ?_, ?_, ?_, ?_, ?_, ?_, ?_, ?_, ?_, ?_, ?_, ?_, ?_, ?_, ?_, ?_, ?_, ?_, ?_, ?_, ?_, ?_, ?_, ?_, ?_⟩
  all_goals
    intro ρ kn hi hp
    have hi : ivasks1 ρ := hi
    unfold ivasks1 at hi
    have hF : ρ.z.F = hold.Φ := kn.F
    simp only [h_nil, h_cons, d_le, d_eq, d_not, d_var, d_lit, d_cel, d_leq, d_fn, d_and, d_iff, IE.den, LE.den, AL.den, lenV, true_and, and_true, pcasks1_15, pcasks1_11, pcasks1_9, pcasks1_7, pcasks1_5, pcasks1_3, pcasks1_1, pcasks1_0, pcasks1_42, pcasks1_36, pcasks1_31, pcasks1_25, pcasks1_20, pcasks1_37, pcasks1_43, pcasks1_32, pcasks1_38, pcasks1_26, pcasks1_33, pcasks1_62, pcasks1_59, pcasks1_56, pcasks1_52, pcasks1_48, pcasks1_44, pcasks1_39, pcasks1_34, pcasks1_27, pcasks1_60, pcasks1_63, pcasks1_57, pcasks1_61, pcasks1_53, pcasks1_58, pcasks1_4, pcasks1_8, pcasks1_6, pcasks1_28, pcasks1_21, pcasks1_16, pcasks1_12, pcasks1_10, pcasks1_22, pcasks1_29, pcasks1_17, pcasks1_23, pcasks1_13, pcasks1_18, pcasks1_54, pcasks1_49, pcasks1_45, pcasks1_40, pcasks1_35, pcasks1_30, pcasks1_24, pcasks1_19, pcasks1_14, pcasks1_50, pcasks1_55, pcasks1_46, pcasks1_51, pcasks1_41, pcasks1_47, hF, pi1, pi2, pi3, pi4, pl2, pb1, pb2, pb3, pb4, pb5, pb6] at hp
    have p1 := And.left hp
    replace hp := And.right hp
    repeat (have _ := And.left hp; replace hp := And.right hp)
    exfalso
    have bN : findN (ρ.z.rl 0) (ρ.i .i64 1) (ρ.z.rl 0).length ≤ (ρ.z.rl 0).length := first_le _ _
    have bW : writeN (ρ.z.rl 0) (ρ.z.rl 0).length ≤ (ρ.z.rl 0).length := first_le _ _
    have cN : clampK .i64 ((findN (ρ.z.rl 0) (ρ.i .i64 1) (ρ.z.rl 0).length : Nat) : Int) = ((findN (ρ.z.rl 0) (ρ.i .i64 1) (ρ.z.rl 0).length : Nat) : Int) := clampS (by omega) (by omega)
    have cW : clampK .i64 ((writeN (ρ.z.rl 0) (ρ.z.rl 0).length : Nat) : Int) = ((writeN (ρ.z.rl 0) (ρ.z.rl 0).length : Nat) : Int) := clampS (by omega) (by omega)
    simp only [cN, cW] at *
    obtain ⟨h1, h2, h3, h4⟩ := hi
    have hw : (ρ.i .i64 1010 = -1 ∧ writeN (ρ.z.rl 0) (ρ.z.rl 0).length = (ρ.z.rl 0).length) ∨ (ρ.i .i64 1010 = ((writeN (ρ.z.rl 0) (ρ.z.rl 0).length : Nat) : Int) ∧ writeN (ρ.z.rl 0) (ρ.z.rl 0).length < (ρ.z.rl 0).length) := by
      rcases h4 with ⟨a, b⟩ | ⟨a, b, c⟩
      · refine .inl ⟨a, ?_⟩
        rw [show (ρ.i .i64 1011).toNat = (ρ.z.rl 0).length by omega] at b; exact b
      · refine .inr (write_is (by assumption) a (by omega) c)
    clear h4
    rcases hw with ⟨w1, w2⟩ | ⟨w1, w2⟩ <;> rcases h2 with ⟨hb0, h2⟩ | ⟨hb0, h2⟩ <;> rcases h1 with ⟨hb6, h1⟩ | ⟨hb6, h1⟩
    all_goals first
      | omega
      | (exfalso; rw [w1] at p1; omega)
      | (rcases h3 with ⟨_, _, h3, hb4⟩ | ⟨_, h3, hb4⟩ <;> first
          | omega
          | (exfalso; rw [w1] at *; omega)
          | (exfalso; simp only [hb0, hb6, hb4, Bool.false_eq_true, not_true_eq_false, not_false_eq_true] at *; done)
          | (exfalso; simp only [hb0, hb6, hb4, Bool.false_eq_true, not_true_eq_false, not_false_eq_true] at *; first | omega | contradiction)
          | skip)
theorem vcasks1_63 : VC TTasks invasks msasks 1 tasks1 wasks1_63 := by
  intro ρ kn hi hp
  have hi : ivasks1 ρ := hi
  unfold ivasks1 at hi
  have hF : ρ.z.F = hold.Φ := kn.F
  simp only [h_nil, h_cons, d_le, d_eq, d_not, d_var, d_lit, d_cel, d_leq, d_fn, d_and, d_iff, IE.den, LE.den, AL.den, lenV, true_and, and_true, pcasks1_2, pcasks1_0, hF, pi1, pi2, pi3, pi4, pl2, pb1, pb2, pb3, pb4, pb5, pb6] at hp
  obtain ⟨p1, p2, p3, p4, p5, p6, p7, p8, p9, p10, p11, p12, p13, p14, p15, p16, p17⟩ := hp
  refine (show ((((ρ.b 1006) = true ∧ (findN (ρ.z.rl 0) (ρ.i .i64 1) (ρ.z.rl 0).length) < (ρ.z.rl 0).length ∧ (ρ.i .i64 1007) = clampK .i64 (intV (celV (ρ.z.rl 0) ((findN (ρ.z.rl 0) (ρ.i .i64 1) (ρ.z.rl 0).length) : Int) 0)) ∧ (ρ.i .i64 1008) = clampK .i64 (intV (celV (ρ.z.rl 0) ((findN (ρ.z.rl 0) (ρ.i .i64 1) (ρ.z.rl 0).length) : Int) 1)) ∧ (ρ.i .i64 1009) = clampK .i64 (intV (celV (ρ.z.rl 0) ((findN (ρ.z.rl 0) (ρ.i .i64 1) (ρ.z.rl 0).length) : Int) 2))) ∨ ((ρ.b 1006) = false ∧ (ρ.z.rl 0).length ≤ (findN (ρ.z.rl 0) (ρ.i .i64 1) (ρ.z.rl 0).length))) ∧ (((ρ.b 1000) = true ∧ (writeN (ρ.z.rl 0) (ρ.z.rl 0).length) < (ρ.z.rl 0).length ∧ (ρ.i .i64 1001) = clampK .i64 (intV (celV (ρ.z.rl 0) ((writeN (ρ.z.rl 0) (ρ.z.rl 0).length) : Int) 0)) ∧ (ρ.i .i64 1002) = clampK .i64 (intV (celV (ρ.z.rl 0) ((writeN (ρ.z.rl 0) (ρ.z.rl 0).length) : Int) 1)) ∧ (ρ.i .i64 1003) = clampK .i64 (intV (celV (ρ.z.rl 0) ((writeN (ρ.z.rl 0) (ρ.z.rl 0).length) : Int) 2))) ∨ ((ρ.b 1000) = false ∧ (ρ.z.rl 0).length ≤ (writeN (ρ.z.rl 0) (ρ.z.rl 0).length))) ∧ ((0 ≤ (ρ.i .i64 2) ∧ (ρ.i .i64 2) ≤ 5 ∧ (ρ.i .i64 1005) = 0 ∧ (ρ.b 1004) = fitsAll (ρ.z.rl 0) 2 (ρ.i .i64 2) (ρ.z.rl 0).length) ∨ (((ρ.i .i64 2) < 0 ∨ 5 < (ρ.i .i64 2)) ∧ (ρ.i .i64 1005) = 2 ∧ (ρ.b 1004) = false)) ∧ (((ρ.i .i64 1011) = -1 ∧ writeN (ρ.z.rl 0) ((ρ.i .i64 1011) + (1 : Int)).toNat = ((ρ.i .i64 1011) + (1 : Int)).toNat) ∨ (0 ≤ (ρ.i .i64 1011) ∧ (ρ.i .i64 1011) < ((ρ.i .i64 1011) + (1 : Int)) ∧ atI (ρ.z.rl 0) (ρ.i .i64 1011).toNat 2 = 5))) ∧ (((ρ.z.rl 0).length - ((ρ.i .i64 1011) + (1 : Int)).toNat : Nat) < (ρ.z.rl 0).length - (ρ.i .i64 1011).toNat) from ?_)
  obtain ⟨h1, h2, h3, h4⟩ := hi
  refine ⟨⟨h1, h2, h3, ?_⟩, by omega⟩
  have e : clampK .i64 (intV (celV (modesL (ρ.z.rl 0) (ρ.z.rl 0).length) (ρ.i .i64 1011) 0)) = atI (ρ.z.rl 0) (ρ.i .i64 1011).toNat 2 := by
    rw [at_z (by omega), modes_at0 _ (by omega)]
  simp only [e] at *
  first
    | exact .inr ⟨by omega, by omega, by assumption⟩
    | (rcases h4 with ⟨a, b⟩ | ⟨a, b, c⟩
       · refine .inl ⟨a, ?_⟩
         rw [at_s (by omega)]; exact first_no b (by simpa using p1)
       · exact .inr ⟨a, by omega, c⟩)
theorem vcasks1_64 : VC TTasks invasks msasks 1 tasks1 wasks1_64 := by
  intro ρ kn hi hp
  have hi : ivasks1 ρ := hi
  unfold ivasks1 at hi
  have hF : ρ.z.F = hold.Φ := kn.F
  simp only [h_nil, h_cons, d_le, d_eq, d_not, d_var, d_lit, d_cel, d_leq, d_fn, d_and, d_iff, IE.den, LE.den, AL.den, lenV, true_and, and_true, pcasks1_2, pcasks1_0, hF, pi1, pi2, pi3, pi4, pl2, pb1, pb2, pb3, pb4, pb5, pb6] at hp
  obtain ⟨p1, p2, p3, p4, p5, p6, p7, p8, p9, p10, p11, p12, p13, p14, p15, p16, p17⟩ := hp
  refine (show ((((ρ.b 1006) = true ∧ (findN (ρ.z.rl 0) (ρ.i .i64 1) (ρ.z.rl 0).length) < (ρ.z.rl 0).length ∧ (ρ.i .i64 1007) = clampK .i64 (intV (celV (ρ.z.rl 0) ((findN (ρ.z.rl 0) (ρ.i .i64 1) (ρ.z.rl 0).length) : Int) 0)) ∧ (ρ.i .i64 1008) = clampK .i64 (intV (celV (ρ.z.rl 0) ((findN (ρ.z.rl 0) (ρ.i .i64 1) (ρ.z.rl 0).length) : Int) 1)) ∧ (ρ.i .i64 1009) = clampK .i64 (intV (celV (ρ.z.rl 0) ((findN (ρ.z.rl 0) (ρ.i .i64 1) (ρ.z.rl 0).length) : Int) 2))) ∨ ((ρ.b 1006) = false ∧ (ρ.z.rl 0).length ≤ (findN (ρ.z.rl 0) (ρ.i .i64 1) (ρ.z.rl 0).length))) ∧ (((ρ.b 1000) = true ∧ (writeN (ρ.z.rl 0) (ρ.z.rl 0).length) < (ρ.z.rl 0).length ∧ (ρ.i .i64 1001) = clampK .i64 (intV (celV (ρ.z.rl 0) ((writeN (ρ.z.rl 0) (ρ.z.rl 0).length) : Int) 0)) ∧ (ρ.i .i64 1002) = clampK .i64 (intV (celV (ρ.z.rl 0) ((writeN (ρ.z.rl 0) (ρ.z.rl 0).length) : Int) 1)) ∧ (ρ.i .i64 1003) = clampK .i64 (intV (celV (ρ.z.rl 0) ((writeN (ρ.z.rl 0) (ρ.z.rl 0).length) : Int) 2))) ∨ ((ρ.b 1000) = false ∧ (ρ.z.rl 0).length ≤ (writeN (ρ.z.rl 0) (ρ.z.rl 0).length))) ∧ ((0 ≤ (ρ.i .i64 2) ∧ (ρ.i .i64 2) ≤ 5 ∧ (ρ.i .i64 1005) = 0 ∧ (ρ.b 1004) = fitsAll (ρ.z.rl 0) 2 (ρ.i .i64 2) (ρ.z.rl 0).length) ∨ (((ρ.i .i64 2) < 0 ∨ 5 < (ρ.i .i64 2)) ∧ (ρ.i .i64 1005) = 2 ∧ (ρ.b 1004) = false)) ∧ (((ρ.i .i64 1010) = -1 ∧ writeN (ρ.z.rl 0) ((ρ.i .i64 1011) + (1 : Int)).toNat = ((ρ.i .i64 1011) + (1 : Int)).toNat) ∨ (0 ≤ (ρ.i .i64 1010) ∧ (ρ.i .i64 1010) < ((ρ.i .i64 1011) + (1 : Int)) ∧ atI (ρ.z.rl 0) (ρ.i .i64 1010).toNat 2 = 5))) ∧ (((ρ.z.rl 0).length - ((ρ.i .i64 1011) + (1 : Int)).toNat : Nat) < (ρ.z.rl 0).length - (ρ.i .i64 1011).toNat) from ?_)
  obtain ⟨h1, h2, h3, h4⟩ := hi
  refine ⟨⟨h1, h2, h3, ?_⟩, by omega⟩
  have e : clampK .i64 (intV (celV (modesL (ρ.z.rl 0) (ρ.z.rl 0).length) (ρ.i .i64 1011) 0)) = atI (ρ.z.rl 0) (ρ.i .i64 1011).toNat 2 := by
    rw [at_z (by omega), modes_at0 _ (by omega)]
  simp only [e] at *
  first
    | exact .inr ⟨by omega, by omega, by assumption⟩
    | (rcases h4 with ⟨a, b⟩ | ⟨a, b, c⟩
       · refine .inl ⟨a, ?_⟩
         rw [at_s (by omega)]; exact first_no b (by simpa using p1)
       · exact .inr ⟨a, by omega, c⟩)
theorem vcsasks0 : ∀ v ∈ vwasks 0, VC TTasks invasks msasks 0 (startF 11 cAsks.pat (.lit true :: cAsks.pre)) v := all_cons vcasks0_0 (all_cons vcasks0_1 (all_cons vcasks0_2 (all_cons vcasks0_3 (all_cons vcasks0_4 (all_cons vcasks0_5 (all_cons vcasks0_6 (all_cons vcasks0_7 (all_cons vcasks0_8 (all_cons vcasks0_9 (all_cons vcasks0_10 (all_cons vcasks0_11 (all_cons (fun _ _ _ _ => all_nil) (all_cons (fun _ _ _ _ => all_nil) (all_nil))))))))))))))
theorem okasks0 : cfgOk (startF 11 cAsks.pat (.lit true :: cAsks.pre)) = true := by kernel_rfl
theorem sgasks0 : segL cAsks.roms cAsks (seg TTasks selasks 9000 tmasks (startF 11 cAsks.pat (.lit true :: cAsks.pre))) = (true, codesR tmasks (views (seg TTasks selasks 9000 tmasks (startF 11 cAsks.pat (.lit true :: cAsks.pre)))), vwasks 0) := by kernel_rfl
theorem vcsasks1 : ∀ v ∈ vwasks 1, VC TTasks invasks msasks 1 tasks1 v := all_cons vcgasks1_0.1 (all_cons (fun _ _ _ _ => all_nil) (all_cons vcgasks1_0.2.1 (all_cons vcgasks1_0.2.2.1 (all_cons vcgasks1_0.2.2.2.1 (all_cons (fun _ _ _ _ => all_nil) (all_cons vcgasks1_0.2.2.2.2.1 (all_cons vcgasks1_0.2.2.2.2.2.1 (all_cons (fun _ _ _ _ => all_nil) (all_cons vcgasks1_0.2.2.2.2.2.2.1 (all_cons vcgasks1_0.2.2.2.2.2.2.2.1 (all_cons (fun _ _ _ _ => all_nil) (all_cons vcgasks1_0.2.2.2.2.2.2.2.2.1 (all_cons (fun _ _ _ _ => all_nil) (all_cons vcgasks1_0.2.2.2.2.2.2.2.2.2.1 (all_cons vcgasks1_0.2.2.2.2.2.2.2.2.2.2.1 (all_cons vcgasks1_0.2.2.2.2.2.2.2.2.2.2.2.1 (all_cons (fun _ _ _ _ => all_nil) (all_cons vcgasks1_0.2.2.2.2.2.2.2.2.2.2.2.2.1 (all_cons vcgasks1_0.2.2.2.2.2.2.2.2.2.2.2.2.2.1 (all_cons (fun _ _ _ _ => all_nil) (all_cons vcgasks1_0.2.2.2.2.2.2.2.2.2.2.2.2.2.2.1 (all_cons vcgasks1_0.2.2.2.2.2.2.2.2.2.2.2.2.2.2.2.1 (all_cons (fun _ _ _ _ => all_nil) (all_cons vcgasks1_0.2.2.2.2.2.2.2.2.2.2.2.2.2.2.2.2.1 (all_cons vcgasks1_0.2.2.2.2.2.2.2.2.2.2.2.2.2.2.2.2.2.1 (all_cons vcgasks1_0.2.2.2.2.2.2.2.2.2.2.2.2.2.2.2.2.2.2.1 (all_cons vcgasks1_0.2.2.2.2.2.2.2.2.2.2.2.2.2.2.2.2.2.2.2.1 (all_cons vcgasks1_0.2.2.2.2.2.2.2.2.2.2.2.2.2.2.2.2.2.2.2.2.1 (all_cons vcgasks1_0.2.2.2.2.2.2.2.2.2.2.2.2.2.2.2.2.2.2.2.2.2.1 (all_cons vcgasks1_0.2.2.2.2.2.2.2.2.2.2.2.2.2.2.2.2.2.2.2.2.2.2.1 (all_cons vcgasks1_0.2.2.2.2.2.2.2.2.2.2.2.2.2.2.2.2.2.2.2.2.2.2.2.1 (all_cons vcgasks1_0.2.2.2.2.2.2.2.2.2.2.2.2.2.2.2.2.2.2.2.2.2.2.2.2.1 (all_cons vcgasks1_0.2.2.2.2.2.2.2.2.2.2.2.2.2.2.2.2.2.2.2.2.2.2.2.2.2.1 (all_cons vcgasks1_0.2.2.2.2.2.2.2.2.2.2.2.2.2.2.2.2.2.2.2.2.2.2.2.2.2.2.1 (all_cons (fun _ _ _ _ => all_nil) (all_cons vcgasks1_0.2.2.2.2.2.2.2.2.2.2.2.2.2.2.2.2.2.2.2.2.2.2.2.2.2.2.2.1 (all_cons vcgasks1_0.2.2.2.2.2.2.2.2.2.2.2.2.2.2.2.2.2.2.2.2.2.2.2.2.2.2.2.2.1 (all_cons vcgasks1_0.2.2.2.2.2.2.2.2.2.2.2.2.2.2.2.2.2.2.2.2.2.2.2.2.2.2.2.2.2.1 (all_cons (fun _ _ _ _ => all_nil) (all_cons vcgasks1_0.2.2.2.2.2.2.2.2.2.2.2.2.2.2.2.2.2.2.2.2.2.2.2.2.2.2.2.2.2.2.1 (all_cons vcgasks1_0.2.2.2.2.2.2.2.2.2.2.2.2.2.2.2.2.2.2.2.2.2.2.2.2.2.2.2.2.2.2.2.1 (all_cons (fun _ _ _ _ => all_nil) (all_cons vcgasks1_0.2.2.2.2.2.2.2.2.2.2.2.2.2.2.2.2.2.2.2.2.2.2.2.2.2.2.2.2.2.2.2.2.1 (all_cons vcgasks1_0.2.2.2.2.2.2.2.2.2.2.2.2.2.2.2.2.2.2.2.2.2.2.2.2.2.2.2.2.2.2.2.2.2.1 (all_cons (fun _ _ _ _ => all_nil) (all_cons vcgasks1_0.2.2.2.2.2.2.2.2.2.2.2.2.2.2.2.2.2.2.2.2.2.2.2.2.2.2.2.2.2.2.2.2.2.2.1 (all_cons (fun _ _ _ _ => all_nil) (all_cons vcgasks1_0.2.2.2.2.2.2.2.2.2.2.2.2.2.2.2.2.2.2.2.2.2.2.2.2.2.2.2.2.2.2.2.2.2.2.2.1 (all_cons vcgasks1_0.2.2.2.2.2.2.2.2.2.2.2.2.2.2.2.2.2.2.2.2.2.2.2.2.2.2.2.2.2.2.2.2.2.2.2.2.1 (all_cons vcgasks1_0.2.2.2.2.2.2.2.2.2.2.2.2.2.2.2.2.2.2.2.2.2.2.2.2.2.2.2.2.2.2.2.2.2.2.2.2.2.1 (all_cons (fun _ _ _ _ => all_nil) (all_cons vcgasks1_0.2.2.2.2.2.2.2.2.2.2.2.2.2.2.2.2.2.2.2.2.2.2.2.2.2.2.2.2.2.2.2.2.2.2.2.2.2.2.1 (all_cons vcgasks1_0.2.2.2.2.2.2.2.2.2.2.2.2.2.2.2.2.2.2.2.2.2.2.2.2.2.2.2.2.2.2.2.2.2.2.2.2.2.2.2.1 (all_cons (fun _ _ _ _ => all_nil) (all_cons vcgasks1_0.2.2.2.2.2.2.2.2.2.2.2.2.2.2.2.2.2.2.2.2.2.2.2.2.2.2.2.2.2.2.2.2.2.2.2.2.2.2.2.2.1 (all_cons vcgasks1_0.2.2.2.2.2.2.2.2.2.2.2.2.2.2.2.2.2.2.2.2.2.2.2.2.2.2.2.2.2.2.2.2.2.2.2.2.2.2.2.2.2.1 (all_cons (fun _ _ _ _ => all_nil) (all_cons vcgasks1_0.2.2.2.2.2.2.2.2.2.2.2.2.2.2.2.2.2.2.2.2.2.2.2.2.2.2.2.2.2.2.2.2.2.2.2.2.2.2.2.2.2.2.1 (all_cons vcgasks1_0.2.2.2.2.2.2.2.2.2.2.2.2.2.2.2.2.2.2.2.2.2.2.2.2.2.2.2.2.2.2.2.2.2.2.2.2.2.2.2.2.2.2.2.1 (all_cons vcgasks1_0.2.2.2.2.2.2.2.2.2.2.2.2.2.2.2.2.2.2.2.2.2.2.2.2.2.2.2.2.2.2.2.2.2.2.2.2.2.2.2.2.2.2.2.2.1 (all_cons vcgasks1_0.2.2.2.2.2.2.2.2.2.2.2.2.2.2.2.2.2.2.2.2.2.2.2.2.2.2.2.2.2.2.2.2.2.2.2.2.2.2.2.2.2.2.2.2.2.1 (all_cons vcgasks1_0.2.2.2.2.2.2.2.2.2.2.2.2.2.2.2.2.2.2.2.2.2.2.2.2.2.2.2.2.2.2.2.2.2.2.2.2.2.2.2.2.2.2.2.2.2.2 (all_cons vcasks1_63 (all_cons vcasks1_64 (all_nil)))))))))))))))))))))))))))))))))))))))))))))))))))))))))))))))))
theorem okasks1 : cfgOk tasks1 = true := by kernel_rfl
theorem sgasks1 : segL cAsks.roms cAsks (seg TTasks selasks 9000 tmasks tasks1) = (true, codesR tmasks (views (seg TTasks selasks 9000 tmasks tasks1)), vwasks 1) := by kernel_rfl
theorem lnasks0 : ∀ ρ, Known TTasks (startF 11 cAsks.pat (.lit true :: cAsks.pre)) ρ → invasks 0 ρ.lt → Holds ρ (leanOf (Cfg.pc (startF 11 cAsks.pat (.lit true :: cAsks.pre)))) := by
  intro ρ _ _
  exact (show Holds ρ [] from fun p hp => by cases hp)
theorem lnasks1 : ∀ ρ, Known TTasks tasks1 ρ → invasks 1 ρ.lt → Holds ρ (leanOf (Cfg.pc tasks1)) := by
  intro ρ _ _
  exact (show Holds ρ [] from fun p hp => by cases hp)
theorem told_asks : Sx.Told hold.Φ cAsks := by
  refine told_of (cs := [cWorks, cRightP, cRightR, cFindIn, cFindOut, cFindN, cFitsA, cWrites, cM86, cM86z, cM51, cM51z, cRF0, cRFin, cRFout, cRFits, cRight03]) (all_cons told_works (all_cons told_rightP (all_cons told_rightR (all_cons told_findIn (all_cons told_findOut (all_cons told_findN (all_cons told_fitsA (all_cons told_wri (all_cons told_m86 (all_cons told_m86z (all_cons told_m51 (all_cons told_m51z (all_cons told_rf0 (all_cons told_rfin (all_cons told_rfout (all_cons told_rfits (all_cons told_right03 (all_nil)))))))))))))))))) (sel := selasks) 9000 tmasks invasks msasks vwasks 0 (pc0 := (.lit true :: cAsks.pre)) (by kernel_rfl) (by kernel_rfl) (by kernel_rfl) (post_nil rfl) ?_ ?_ ?_ rfl (fun ρ _ h => h.cons (p := .lit true) (by simp only [BE.den])) (fun _ _ _ _ => trivial) ?_
  · intro k C h
    have := lk_mem h
    simp only [tmasks, List.mem_cons, Prod.mk.injEq, List.not_mem_nil, or_false] at this
    rcases this with ⟨rfl, rfl⟩ | ⟨rfl, rfl⟩
    · exact okasks0
    · exact okasks1
  · intro k C h
    have := lk_mem h
    simp only [tmasks, List.mem_cons, Prod.mk.injEq, List.not_mem_nil, or_false] at this
    rcases this with ⟨rfl, rfl⟩ | ⟨rfl, rfl⟩
    · exact sgasks0
    · exact sgasks1
  · intro k C h
    have := lk_mem h
    simp only [tmasks, List.mem_cons, Prod.mk.injEq, List.not_mem_nil, or_false] at this
    rcases this with ⟨rfl, rfl⟩ | ⟨rfl, rfl⟩
    · exact vcsasks0
    · exact vcsasks1
  · intro k C h
    have := lk_mem h
    simp only [tmasks, List.mem_cons, Prod.mk.injEq, List.not_mem_nil, or_false] at this
    rcases this with ⟨rfl, rfl⟩ | ⟨rfl, rfl⟩
    · exact lnasks0
    · exact lnasks1
end Go.Proofs.YteblnjgghbclpaaDoor.hold
