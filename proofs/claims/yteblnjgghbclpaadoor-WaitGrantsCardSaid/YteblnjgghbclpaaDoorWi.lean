/- Layer wait: who is let go ahead, told. No condition. -/
import Derived.Test.YteblnjgghbclpaaDoorWh
set_option linter.unusedVariables false
set_option linter.unusedSimpArgs false
set_option linter.deprecated false
namespace Go.Proofs.YteblnjgghbclpaaDoor.wt
open Go Go.Proofs.YteblnjgghbclpaaDoor.Sx
noncomputable section
abbrev TTgrOk : Tab := T wt.Φ cGrOk.roms [cQueueP, cQueueR, cFitsM, cFits03]
def tgrOk1 : Cfg := { top := ⟨32, over (opqS 10000 67) [(5, (SV.ptr 0 0)), (7, (SV.ptr 1 0)), (8, (SV.sll 3 4 5 (IE.lit 0) (IE.var .i64 1000) none)), (40, (SV.int .i64 (IE.var .i64 1))), (41, (SV.int .i64 (IE.var .i64 1001)))], ogt (loopTodo (bodyOf (T wt.Φ [] []) 32) 0), [], false, none⟩, rest := [], heap := [(0, .cells [(SV.int .i64 (IE.lit 0)), (SV.int .i64 (IE.lit 0)), (SV.int .i64 (IE.lit 0)), (SV.int .i64 (IE.lit 0)), (SV.int .i64 (IE.lit 0))] 25), (1, .cells [(SV.int .i64 (IE.cel .i64 (LE.rom 0) (IE.var .i64 1) 0)), (SV.int .i64 (IE.cel .i64 (LE.rom 0) (IE.var .i64 1) 1)), (SV.int .i64 (IE.cel .i64 (LE.rom 0) (IE.var .i64 1) 2)), (SV.int .i64 (IE.cel .i64 (LE.rom 0) (IE.var .i64 1) 3)), (SV.int .i64 (IE.cel .i64 (LE.rom 0) (IE.var .i64 1) 4))] 25), (3, .rowl (LE.var 1004) (IE.var .i64 1002) [(CK.int .i64), (CK.int .i64), (CK.int .i64), (CK.int .i64), (CK.int .i64)] 25 4 5)], next := 5, pc := .lit true :: ([] ++ [(BE.eq (IE.fn .i64 7 (AL.lst (LE.rom 0) (AL.int .i64 (IE.var .i64 1) AL.nil))) (IE.lit 0)), (BE.le (IE.lit 2) (IE.len (LE.rom 0))), (BE.le (IE.len (LE.rom 0)) (IE.lit 1000)), (BE.fn 4 (AL.lst (LE.rom 0) AL.nil)), (BE.le (IE.lit 0) (IE.var .i64 1)), (BE.not (BE.le (IE.len (LE.rom 0)) (IE.var .i64 1))), (BE.le (IE.lit 0) (IE.var .i64 1000)), (BE.not (BE.le (IE.len (LE.rom 0)) (IE.var .i64 1000))), (BE.le (IE.lit 0) (IE.var .i64 1001)), (BE.not (BE.le (IE.len (LE.rom 0)) (IE.var .i64 1001))), (BE.le (IE.lit 0) (IE.var .i64 1002)), (BE.not (BE.le (IE.len (LE.rom 0)) (IE.var .i64 1002)))] ++ (.and (.lit true) (.lit true)) :: [.le (.lit 0) (.cel .i64 (.var 1004) (.var .i64 1001) 2), .le (.cel .i64 (.var 1004) (.var .i64 1001) 2) (.lit 5), .le (.lit 0) (.cel .i64 (.var 1004) (.var .i64 1001) 4), .le (.cel .i64 (.var 1004) (.var .i64 1001) 4) (.lit 64), .le (.lit 0) (.cel .i64 (.rom 0) (xv 1) 2), .le (.cel .i64 (.rom 0) (xv 1) 2) (.lit 5), .le (ln 0) (.add (.var .i64 1000) (.lit 1)), .le (.var .i64 1000) (.var .i64 1002)]) }
def tmgrOk : List (Nat × Cfg) := [(0, startF 32 cGrOk.pat (.lit true :: cGrOk.pre)), (1, tgrOk1)]
def selgrOk : Sel := [(32, 1, 0, 1)]
def pcgrOk0_0 : List BE := [(BE.lit true), (BE.le (IE.len (LE.rom 0)) (IE.lit 1000)), (BE.le (IE.lit 2) (IE.len (LE.rom 0))), (BE.eq (IE.fn .i64 7 (AL.lst (LE.rom 0) (AL.int .i64 (IE.var .i64 1) AL.nil))) (IE.lit 0))]
def pcgrOk0_1 : List BE := ((BE.fn 4 (AL.lst (LE.rom 0) AL.nil)) :: pcgrOk0_0)
def pcgrOk0_2 : List BE := ((BE.le (IE.lit 0) (IE.var .i64 1)) :: pcgrOk0_1)
def pcgrOk0_3 : List BE := ((BE.not (BE.le (IE.len (LE.rom 0)) (IE.var .i64 1))) :: pcgrOk0_2)
def wgrOk0_0 : VW := (VW.done ((BE.le (IE.len (LE.rom 0)) (IE.var .i64 1)) :: pcgrOk0_2) (some [(G.b (BE.lit true) (BE.lit false))]))
def wgrOk0_1 : VW := (VW.cut 1 ((BE.eq (IE.rcap 0) (IE.add (IE.var .i64 1) (IE.lit 1))) :: pcgrOk0_3) (Sx.Sub.mk [(.i64, (1002, (IE.sub (IE.add (IE.add (IE.lit 0) (IE.var .i64 1)) (IE.sub (IE.len (LE.rom 0)) (IE.add (IE.var .i64 1) (IE.lit 1)))) (IE.lit 0)))), (.i64, (1001, (IE.lit 0))), (.i64, (1000, (IE.add (IE.var .i64 1) (IE.sub (IE.len (LE.rom 0)) (IE.add (IE.var .i64 1) (IE.lit 1))))))] [] [(1004, (LE.cat (LE.cat (LE.take (LE.cat (LE.cat (LE.take (LE.rep (AL.int .i64 (IE.lit 0) (AL.int .i64 (IE.lit 0) (AL.int .i64 (IE.lit 0) (AL.int .i64 (IE.lit 0) (AL.int .i64 (IE.lit 0) AL.nil))))) (IE.sub (IE.add (IE.add (IE.lit 0) (IE.var .i64 1)) (IE.sub (IE.len (LE.rom 0)) (IE.add (IE.var .i64 1) (IE.lit 1)))) (IE.lit 0))) (IE.lit 0)) (LE.take (LE.rom 0) (IE.var .i64 1))) (LE.drop (LE.rep (AL.int .i64 (IE.lit 0) (AL.int .i64 (IE.lit 0) (AL.int .i64 (IE.lit 0) (AL.int .i64 (IE.lit 0) (AL.int .i64 (IE.lit 0) AL.nil))))) (IE.sub (IE.add (IE.add (IE.lit 0) (IE.var .i64 1)) (IE.sub (IE.len (LE.rom 0)) (IE.add (IE.var .i64 1) (IE.lit 1)))) (IE.lit 0))) (IE.var .i64 1))) (IE.var .i64 1)) (LE.take (LE.rom 0) (IE.sub (IE.len (LE.rom 0)) (IE.add (IE.var .i64 1) (IE.lit 1))))) (LE.drop (LE.cat (LE.cat (LE.take (LE.rep (AL.int .i64 (IE.lit 0) (AL.int .i64 (IE.lit 0) (AL.int .i64 (IE.lit 0) (AL.int .i64 (IE.lit 0) (AL.int .i64 (IE.lit 0) AL.nil))))) (IE.sub (IE.add (IE.add (IE.lit 0) (IE.var .i64 1)) (IE.sub (IE.len (LE.rom 0)) (IE.add (IE.var .i64 1) (IE.lit 1)))) (IE.lit 0))) (IE.lit 0)) (LE.take (LE.rom 0) (IE.var .i64 1))) (LE.drop (LE.rep (AL.int .i64 (IE.lit 0) (AL.int .i64 (IE.lit 0) (AL.int .i64 (IE.lit 0) (AL.int .i64 (IE.lit 0) (AL.int .i64 (IE.lit 0) AL.nil))))) (IE.sub (IE.add (IE.add (IE.lit 0) (IE.var .i64 1)) (IE.sub (IE.len (LE.rom 0)) (IE.add (IE.var .i64 1) (IE.lit 1)))) (IE.lit 0))) (IE.var .i64 1))) (IE.add (IE.var .i64 1) (IE.sub (IE.len (LE.rom 0)) (IE.add (IE.var .i64 1) (IE.lit 1)))))))] [] [] []))
def wgrOk0_2 : VW := (VW.cut 1 ((BE.not (BE.eq (IE.rcap 0) (IE.add (IE.var .i64 1) (IE.lit 1)))) :: pcgrOk0_3) (Sx.Sub.mk [(.i64, (1002, (IE.sub (IE.add (IE.add (IE.lit 0) (IE.var .i64 1)) (IE.sub (IE.len (LE.rom 0)) (IE.add (IE.var .i64 1) (IE.lit 1)))) (IE.lit 0)))), (.i64, (1001, (IE.lit 0))), (.i64, (1000, (IE.add (IE.var .i64 1) (IE.sub (IE.len (LE.rom 0)) (IE.add (IE.var .i64 1) (IE.lit 1))))))] [] [(1004, (LE.cat (LE.cat (LE.take (LE.cat (LE.cat (LE.take (LE.rep (AL.int .i64 (IE.lit 0) (AL.int .i64 (IE.lit 0) (AL.int .i64 (IE.lit 0) (AL.int .i64 (IE.lit 0) (AL.int .i64 (IE.lit 0) AL.nil))))) (IE.sub (IE.add (IE.add (IE.lit 0) (IE.var .i64 1)) (IE.sub (IE.len (LE.rom 0)) (IE.add (IE.var .i64 1) (IE.lit 1)))) (IE.lit 0))) (IE.lit 0)) (LE.take (LE.rom 0) (IE.var .i64 1))) (LE.drop (LE.rep (AL.int .i64 (IE.lit 0) (AL.int .i64 (IE.lit 0) (AL.int .i64 (IE.lit 0) (AL.int .i64 (IE.lit 0) (AL.int .i64 (IE.lit 0) AL.nil))))) (IE.sub (IE.add (IE.add (IE.lit 0) (IE.var .i64 1)) (IE.sub (IE.len (LE.rom 0)) (IE.add (IE.var .i64 1) (IE.lit 1)))) (IE.lit 0))) (IE.var .i64 1))) (IE.var .i64 1)) (LE.drop (LE.rom 0) (IE.add (IE.var .i64 1) (IE.lit 1)))) (LE.drop (LE.cat (LE.cat (LE.take (LE.rep (AL.int .i64 (IE.lit 0) (AL.int .i64 (IE.lit 0) (AL.int .i64 (IE.lit 0) (AL.int .i64 (IE.lit 0) (AL.int .i64 (IE.lit 0) AL.nil))))) (IE.sub (IE.add (IE.add (IE.lit 0) (IE.var .i64 1)) (IE.sub (IE.len (LE.rom 0)) (IE.add (IE.var .i64 1) (IE.lit 1)))) (IE.lit 0))) (IE.lit 0)) (LE.take (LE.rom 0) (IE.var .i64 1))) (LE.drop (LE.rep (AL.int .i64 (IE.lit 0) (AL.int .i64 (IE.lit 0) (AL.int .i64 (IE.lit 0) (AL.int .i64 (IE.lit 0) (AL.int .i64 (IE.lit 0) AL.nil))))) (IE.sub (IE.add (IE.add (IE.lit 0) (IE.var .i64 1)) (IE.sub (IE.len (LE.rom 0)) (IE.add (IE.var .i64 1) (IE.lit 1)))) (IE.lit 0))) (IE.var .i64 1))) (IE.add (IE.var .i64 1) (IE.sub (IE.len (LE.rom 0)) (IE.add (IE.var .i64 1) (IE.lit 1)))))))] [] [] []))
def wgrOk0_3 : VW := (VW.done ((BE.not (BE.le (IE.lit 0) (IE.var .i64 1))) :: pcgrOk0_1) (some [(G.b (BE.lit true) (BE.lit false))]))
def wgrOk0_4 : VW := (VW.done ((BE.not (BE.fn 4 (AL.lst (LE.rom 0) AL.nil))) :: pcgrOk0_0) (some [(G.b (BE.lit true) (BE.lit false))]))
def vwgrOk0 : List VW := [wgrOk0_0, wgrOk0_1, wgrOk0_2, wgrOk0_3, wgrOk0_4]
def pcgrOk1_0 : List BE := [(BE.lit true), (BE.eq (IE.fn .i64 7 (AL.lst (LE.rom 0) (AL.int .i64 (IE.var .i64 1) AL.nil))) (IE.lit 0)), (BE.le (IE.lit 2) (IE.len (LE.rom 0))), (BE.le (IE.len (LE.rom 0)) (IE.lit 1000)), (BE.fn 4 (AL.lst (LE.rom 0) AL.nil)), (BE.le (IE.lit 0) (IE.var .i64 1)), (BE.not (BE.le (IE.len (LE.rom 0)) (IE.var .i64 1))), (BE.le (IE.lit 0) (IE.var .i64 1000)), (BE.not (BE.le (IE.len (LE.rom 0)) (IE.var .i64 1000))), (BE.le (IE.lit 0) (IE.var .i64 1001)), (BE.not (BE.le (IE.len (LE.rom 0)) (IE.var .i64 1001))), (BE.le (IE.lit 0) (IE.var .i64 1002)), (BE.not (BE.le (IE.len (LE.rom 0)) (IE.var .i64 1002))), (BE.and (BE.lit true) (BE.lit true)), (BE.le (IE.lit 0) (IE.cel .i64 (LE.var 1004) (IE.var .i64 1001) 2)), (BE.le (IE.cel .i64 (LE.var 1004) (IE.var .i64 1001) 2) (IE.lit 5)), (BE.le (IE.lit 0) (IE.cel .i64 (LE.var 1004) (IE.var .i64 1001) 4)), (BE.le (IE.cel .i64 (LE.var 1004) (IE.var .i64 1001) 4) (IE.lit 64)), (BE.le (IE.lit 0) (IE.cel .i64 (LE.rom 0) (IE.var .i64 1) 2)), (BE.le (IE.cel .i64 (LE.rom 0) (IE.var .i64 1) 2) (IE.lit 5)), (BE.le (IE.len (LE.rom 0)) (IE.add (IE.var .i64 1000) (IE.lit 1))), (BE.le (IE.var .i64 1000) (IE.var .i64 1002))]
def pcgrOk1_1 : List BE := ((BE.not (BE.le (IE.var .i64 1) (IE.var .i64 1001))) :: pcgrOk1_0)
def pcgrOk1_2 : List BE := ((BE.not (BE.fn 1 (AL.int .i64 (IE.cel .i64 (LE.var 1004) (IE.var .i64 1001) 2) (AL.int .i64 (IE.cel .i64 (LE.rom 0) (IE.var .i64 1) 2) AL.nil)))) :: pcgrOk1_1)
def wgrOk1_0 : VW := (VW.done ((BE.le (IE.var .i64 1) (IE.var .i64 1001)) :: pcgrOk1_0) (some [(G.i (IE.len (LE.fn 4 (AL.lst (LE.rom 0) (AL.int .i64 (IE.var .i64 1) AL.nil)))) (IE.var .i64 1000)), (G.l (LE.fn 4 (AL.lst (LE.rom 0) (AL.int .i64 (IE.var .i64 1) AL.nil))) (LE.var 1004)), (G.i (IE.len (LE.fn 4 (AL.lst (LE.rom 0) (AL.int .i64 (IE.var .i64 1) AL.nil)))) (IE.var .i64 1002))]))
def wgrOk1_1 : VW := (VW.cut 1 ((BE.fn 1 (AL.int .i64 (IE.cel .i64 (LE.var 1004) (IE.var .i64 1001) 2) (AL.int .i64 (IE.cel .i64 (LE.rom 0) (IE.var .i64 1) 2) AL.nil))) :: pcgrOk1_1) (Sx.Sub.mk [(.i64, (1002, (IE.var .i64 1002))), (.i64, (1001, (IE.add (IE.var .i64 1001) (IE.lit 1)))), (.i64, (1000, (IE.var .i64 1000)))] [] [(1004, (LE.var 1004))] [] [] []))
def wgrOk1_2 : VW := (VW.cut 1 ((BE.le (IE.add (IE.cel .i64 (LE.var 1004) (IE.var .i64 1001) 4) (IE.lit 1)) (IE.lit 64)) :: pcgrOk1_2) (Sx.Sub.mk [(.i64, (1002, (IE.var .i64 1002))), (.i64, (1001, (IE.add (IE.var .i64 1001) (IE.lit 1)))), (.i64, (1000, (IE.var .i64 1000)))] [] [(1004, (LE.set (LE.var 1004) (IE.var .i64 1001) (AL.int .i64 (IE.cel .i64 (LE.var 1004) (IE.var .i64 1001) 0) (AL.int .i64 (IE.cel .i64 (LE.var 1004) (IE.var .i64 1001) 1) (AL.int .i64 (IE.cel .i64 (LE.var 1004) (IE.var .i64 1001) 2) (AL.int .i64 (IE.cel .i64 (LE.var 1004) (IE.var .i64 1001) 3) (AL.int .i64 (IE.add (IE.cel .i64 (LE.var 1004) (IE.var .i64 1001) 4) (IE.lit 1)) AL.nil)))))))] [] [] []))
def wgrOk1_3 : VW := (VW.cut 1 ((BE.not (BE.le (IE.add (IE.cel .i64 (LE.var 1004) (IE.var .i64 1001) 4) (IE.lit 1)) (IE.lit 64))) :: pcgrOk1_2) (Sx.Sub.mk [(.i64, (1002, (IE.var .i64 1002))), (.i64, (1001, (IE.add (IE.var .i64 1001) (IE.lit 1)))), (.i64, (1000, (IE.var .i64 1000)))] [] [(1004, (LE.set (LE.var 1004) (IE.var .i64 1001) (AL.int .i64 (IE.cel .i64 (LE.var 1004) (IE.var .i64 1001) 0) (AL.int .i64 (IE.cel .i64 (LE.var 1004) (IE.var .i64 1001) 1) (AL.int .i64 (IE.cel .i64 (LE.var 1004) (IE.var .i64 1001) 2) (AL.int .i64 (IE.cel .i64 (LE.var 1004) (IE.var .i64 1001) 3) (AL.int .i64 (IE.lit 64) AL.nil)))))))] [] [] []))
def vwgrOk1 : List VW := [wgrOk1_0, wgrOk1_1, wgrOk1_2, wgrOk1_3]
def vwgrOk : Nat → List VW
  | 0 => vwgrOk0
  | 1 => vwgrOk1
  | _ => []
end
def invgrOk : Nat → Lt → Prop
  | 1, l => (l.i .i64 1000) = ((l.z.rl 0).length : Int) - 1 ∧ queueL (l.z.rl 0) = true ∧ 0 ≤ (l.i .i64 1) ∧ (l.i .i64 1) < ((l.z.rl 0).length : Int) ∧ 0 ≤ (l.i .i64 1001) ∧ (l.i .i64 1001) ≤ (l.i .i64 1) ∧ GrSt (l.z.rl 0) (l.i .i64 1).toNat (l.i .i64 1001).toNat (l.l 1004)
  | _, _ => True
def msgrOk : Nat → Lt → Nat
  | 0, l => (l.z.rl 0).length + 1
  | 1, l => (l.z.rl 0).length - (l.i .i64 1001).toNat
  | _, _ => 0
theorem vcggrOk0_0 : VC TTgrOk invgrOk msgrOk 0 (startF 32 cGrOk.pat (.lit true :: cGrOk.pre)) wgrOk0_0 ∧ VC TTgrOk invgrOk msgrOk 0 (startF 32 cGrOk.pat (.lit true :: cGrOk.pre)) wgrOk0_3 ∧ VC TTgrOk invgrOk msgrOk 0 (startF 32 cGrOk.pat (.lit true :: cGrOk.pre)) wgrOk0_4 := by
  refine ⟨?_, ?_, ?_⟩
  all_goals
    intro ρ kn hi hp
    have hF : ρ.z.F = wt.Φ := kn.F
    simp only [h_nil, h_cons, d_le, d_eq, d_not, d_var, d_lit, d_cel, d_leq, d_fn, d_and, d_iff, IE.den, LE.den, AL.den, lenV, true_and, and_true, pcgrOk0_2, pcgrOk0_1, pcgrOk0_0, hF, pi2, pi5, pi6, pi7, pb1, pb2, pb4, pl4, pl6, pl8] at hp
    have p1 := And.left hp
    replace hp := And.right hp
    repeat (have _ := And.left hp; replace hp := And.right hp)
    exfalso
    all_goals
      simp only [grE_in] at *
      first
        | (have q := gr2 (f := ρ.i .i64 1) (by assumption : ¬ queueL (ρ.z.rl 0) = true); omega)
        | (have q := gr4 (l := ρ.z.rl 0) (f := ρ.i .i64 1) (by assumption) (by omega); omega)
theorem vcgrOk0_1 : VC TTgrOk invgrOk msgrOk 0 (startF 32 cGrOk.pat (.lit true :: cGrOk.pre)) wgrOk0_1 := by
  intro ρ kn hi hp
  have hF : ρ.z.F = wt.Φ := kn.F
  simp only [h_nil, h_cons, d_le, d_eq, d_not, d_var, d_lit, d_cel, d_leq, d_fn, d_and, d_iff, IE.den, LE.den, AL.den, lenV, true_and, and_true, pcgrOk0_3, pcgrOk0_2, pcgrOk0_1, pcgrOk0_0, hF, pi2, pi5, pi6, pi7, pb1, pb2, pb4, pl4, pl6, pl8] at hp
  obtain ⟨p1, p2, p3, p4, p5, p6, p7⟩ := hp
  refine (show (((ρ.i .i64 1) + ((((ρ.z.rl 0).length : Nat) : Int) - ((ρ.i .i64 1) + (1 : Int)))) = ((ρ.z.rl 0).length : Int) - 1 ∧ queueL (ρ.z.rl 0) = true ∧ 0 ≤ (ρ.i .i64 1) ∧ (ρ.i .i64 1) < ((ρ.z.rl 0).length : Int) ∧ 0 ≤ (0 : Int) ∧ (0 : Int) ≤ (ρ.i .i64 1) ∧ GrSt (ρ.z.rl 0) (ρ.i .i64 1).toNat (0 : Int).toNat (((((((List.replicate ((((0 : Int) + (ρ.i .i64 1)) + ((((ρ.z.rl 0).length : Nat) : Int) - ((ρ.i .i64 1) + (1 : Int)))) - (0 : Int)).toNat [Go.Value.int .i64 (0 : Int), Go.Value.int .i64 (0 : Int), Go.Value.int .i64 (0 : Int), Go.Value.int .i64 (0 : Int), Go.Value.int .i64 (0 : Int)]).take (0 : Int).toNat) ++ ((ρ.z.rl 0).take (ρ.i .i64 1).toNat)) ++ ((List.replicate ((((0 : Int) + (ρ.i .i64 1)) + ((((ρ.z.rl 0).length : Nat) : Int) - ((ρ.i .i64 1) + (1 : Int)))) - (0 : Int)).toNat [Go.Value.int .i64 (0 : Int), Go.Value.int .i64 (0 : Int), Go.Value.int .i64 (0 : Int), Go.Value.int .i64 (0 : Int), Go.Value.int .i64 (0 : Int)]).drop (ρ.i .i64 1).toNat)).take (ρ.i .i64 1).toNat) ++ ((ρ.z.rl 0).take ((((ρ.z.rl 0).length : Nat) : Int) - ((ρ.i .i64 1) + (1 : Int))).toNat)) ++ (((((List.replicate ((((0 : Int) + (ρ.i .i64 1)) + ((((ρ.z.rl 0).length : Nat) : Int) - ((ρ.i .i64 1) + (1 : Int)))) - (0 : Int)).toNat [Go.Value.int .i64 (0 : Int), Go.Value.int .i64 (0 : Int), Go.Value.int .i64 (0 : Int), Go.Value.int .i64 (0 : Int), Go.Value.int .i64 (0 : Int)]).take (0 : Int).toNat) ++ ((ρ.z.rl 0).take (ρ.i .i64 1).toNat)) ++ ((List.replicate ((((0 : Int) + (ρ.i .i64 1)) + ((((ρ.z.rl 0).length : Nat) : Int) - ((ρ.i .i64 1) + (1 : Int)))) - (0 : Int)).toNat [Go.Value.int .i64 (0 : Int), Go.Value.int .i64 (0 : Int), Go.Value.int .i64 (0 : Int), Go.Value.int .i64 (0 : Int), Go.Value.int .i64 (0 : Int)]).drop (ρ.i .i64 1).toNat)).drop ((ρ.i .i64 1) + ((((ρ.z.rl 0).length : Nat) : Int) - ((ρ.i .i64 1) + (1 : Int)))).toNat))) ∧ (((ρ.z.rl 0).length - (0 : Int).toNat : Nat) < (ρ.z.rl 0).length + 1) from ?_)
  refine ⟨⟨by omega, by assumption, by omega, by omega, by omega, by omega, gst0 ?_⟩, by omega⟩
  have hcap := kn.cap 0 _ _ rfl
  obtain ⟨f, hf⟩ : ∃ f : Nat, ρ.i .i64 1 = (f : Int) := ⟨(ρ.i .i64 1).toNat, by omega⟩
  simp only [hf] at *
  refine Eq.symm ?_
  have t1 : ((f : Int) + 1).toNat = f + 1 := by omega
  rw [cutL]
  simp only [Int.toNat_natCast, t1]
  first
    | exact (put2 (a := (f : Int)) (Z := List.replicate _ _) (A := List.take f (ρ.z.rl 0)) (B := List.drop (f + 1) (ρ.z.rl 0)) (by rw [List.length_replicate]; omega) (by rw [List.length_take]; omega) (by rw [List.length_drop]; omega)).symm
    | (have d : List.drop (f + 1) (ρ.z.rl 0) = [] := List.drop_eq_nil_of_le (by omega)
       rw [d]
       rw [show ((((ρ.z.rl 0).length : Nat) : Int) - ((f : Int) + 1)).toNat = 0 by omega, List.take_zero]
       exact (put2 (a := (f : Int)) (Z := List.replicate _ _) (A := List.take f (ρ.z.rl 0)) (B := []) (by rw [List.length_replicate]; omega) (by rw [List.length_take]; omega) (by simp; omega)).symm)
theorem vcgrOk0_2 : VC TTgrOk invgrOk msgrOk 0 (startF 32 cGrOk.pat (.lit true :: cGrOk.pre)) wgrOk0_2 := by
  intro ρ kn hi hp
  have hF : ρ.z.F = wt.Φ := kn.F
  simp only [h_nil, h_cons, d_le, d_eq, d_not, d_var, d_lit, d_cel, d_leq, d_fn, d_and, d_iff, IE.den, LE.den, AL.den, lenV, true_and, and_true, pcgrOk0_3, pcgrOk0_2, pcgrOk0_1, pcgrOk0_0, hF, pi2, pi5, pi6, pi7, pb1, pb2, pb4, pl4, pl6, pl8] at hp
  obtain ⟨p1, p2, p3, p4, p5, p6, p7⟩ := hp
  refine (show (((ρ.i .i64 1) + ((((ρ.z.rl 0).length : Nat) : Int) - ((ρ.i .i64 1) + (1 : Int)))) = ((ρ.z.rl 0).length : Int) - 1 ∧ queueL (ρ.z.rl 0) = true ∧ 0 ≤ (ρ.i .i64 1) ∧ (ρ.i .i64 1) < ((ρ.z.rl 0).length : Int) ∧ 0 ≤ (0 : Int) ∧ (0 : Int) ≤ (ρ.i .i64 1) ∧ GrSt (ρ.z.rl 0) (ρ.i .i64 1).toNat (0 : Int).toNat (((((((List.replicate ((((0 : Int) + (ρ.i .i64 1)) + ((((ρ.z.rl 0).length : Nat) : Int) - ((ρ.i .i64 1) + (1 : Int)))) - (0 : Int)).toNat [Go.Value.int .i64 (0 : Int), Go.Value.int .i64 (0 : Int), Go.Value.int .i64 (0 : Int), Go.Value.int .i64 (0 : Int), Go.Value.int .i64 (0 : Int)]).take (0 : Int).toNat) ++ ((ρ.z.rl 0).take (ρ.i .i64 1).toNat)) ++ ((List.replicate ((((0 : Int) + (ρ.i .i64 1)) + ((((ρ.z.rl 0).length : Nat) : Int) - ((ρ.i .i64 1) + (1 : Int)))) - (0 : Int)).toNat [Go.Value.int .i64 (0 : Int), Go.Value.int .i64 (0 : Int), Go.Value.int .i64 (0 : Int), Go.Value.int .i64 (0 : Int), Go.Value.int .i64 (0 : Int)]).drop (ρ.i .i64 1).toNat)).take (ρ.i .i64 1).toNat) ++ ((ρ.z.rl 0).drop ((ρ.i .i64 1) + (1 : Int)).toNat)) ++ (((((List.replicate ((((0 : Int) + (ρ.i .i64 1)) + ((((ρ.z.rl 0).length : Nat) : Int) - ((ρ.i .i64 1) + (1 : Int)))) - (0 : Int)).toNat [Go.Value.int .i64 (0 : Int), Go.Value.int .i64 (0 : Int), Go.Value.int .i64 (0 : Int), Go.Value.int .i64 (0 : Int), Go.Value.int .i64 (0 : Int)]).take (0 : Int).toNat) ++ ((ρ.z.rl 0).take (ρ.i .i64 1).toNat)) ++ ((List.replicate ((((0 : Int) + (ρ.i .i64 1)) + ((((ρ.z.rl 0).length : Nat) : Int) - ((ρ.i .i64 1) + (1 : Int)))) - (0 : Int)).toNat [Go.Value.int .i64 (0 : Int), Go.Value.int .i64 (0 : Int), Go.Value.int .i64 (0 : Int), Go.Value.int .i64 (0 : Int), Go.Value.int .i64 (0 : Int)]).drop (ρ.i .i64 1).toNat)).drop ((ρ.i .i64 1) + ((((ρ.z.rl 0).length : Nat) : Int) - ((ρ.i .i64 1) + (1 : Int)))).toNat))) ∧ (((ρ.z.rl 0).length - (0 : Int).toNat : Nat) < (ρ.z.rl 0).length + 1) from ?_)
  refine ⟨⟨by omega, by assumption, by omega, by omega, by omega, by omega, gst0 ?_⟩, by omega⟩
  have hcap := kn.cap 0 _ _ rfl
  obtain ⟨f, hf⟩ : ∃ f : Nat, ρ.i .i64 1 = (f : Int) := ⟨(ρ.i .i64 1).toNat, by omega⟩
  simp only [hf] at *
  refine Eq.symm ?_
  have t1 : ((f : Int) + 1).toNat = f + 1 := by omega
  rw [cutL]
  simp only [Int.toNat_natCast, t1]
  first
    | exact (put2 (a := (f : Int)) (Z := List.replicate _ _) (A := List.take f (ρ.z.rl 0)) (B := List.drop (f + 1) (ρ.z.rl 0)) (by rw [List.length_replicate]; omega) (by rw [List.length_take]; omega) (by rw [List.length_drop]; omega)).symm
    | (have d : List.drop (f + 1) (ρ.z.rl 0) = [] := List.drop_eq_nil_of_le (by omega)
       rw [d]
       rw [show ((((ρ.z.rl 0).length : Nat) : Int) - ((f : Int) + 1)).toNat = 0 by omega, List.take_zero]
       exact (put2 (a := (f : Int)) (Z := List.replicate _ _) (A := List.take f (ρ.z.rl 0)) (B := []) (by rw [List.length_replicate]; omega) (by rw [List.length_take]; omega) (by simp; omega)).symm)
def ivgrOk1 (ρ : Rho) : Prop := (ρ.i .i64 1000) = ((ρ.z.rl 0).length : Int) - 1 ∧ queueL (ρ.z.rl 0) = true ∧ 0 ≤ (ρ.i .i64 1) ∧ (ρ.i .i64 1) < ((ρ.z.rl 0).length : Int) ∧ 0 ≤ (ρ.i .i64 1001) ∧ (ρ.i .i64 1001) ≤ (ρ.i .i64 1) ∧ GrSt (ρ.z.rl 0) (ρ.i .i64 1).toNat (ρ.i .i64 1001).toNat (ρ.l 1004)
theorem vcgrOk1_0 : VC TTgrOk invgrOk msgrOk 1 tgrOk1 wgrOk1_0 := by
  intro ρ kn hi hp
  have hi : ivgrOk1 ρ := hi
  unfold ivgrOk1 at hi
  have hr3 : Typed [(CK.int .i64), (CK.int .i64), (CK.int .i64), (CK.int .i64), (CK.int .i64)] (ρ.l 1004) ∧ (ρ.i .i64 1002) = (((ρ.l 1004)).length : Int) := kn.rows 3 _ _ _ _ _ _ rfl
  have hF : ρ.z.F = wt.Φ := kn.F
  simp only [h_nil, h_cons, d_le, d_eq, d_not, d_var, d_lit, d_cel, d_leq, d_fn, d_and, d_iff, IE.den, LE.den, AL.den, lenV, true_and, and_true, pcgrOk1_0, hF, pi2, pi5, pi6, pi7, pb1, pb2, pb4, pl4, pl6, pl8] at hp
  obtain ⟨p1, p2, p3, p4, p5, p6, p7, p8, p9, p10, p11, p12, p13, p14, p15, p16, p17, p18, p19, p20, p21⟩ := hp
  refine all_cons (show (((ρ.z.F.l 4 [.lst (ρ.z.rl 0), .int .i64 (ρ.i .i64 1)]).length : Nat) : Int) = (ρ.i .i64 1000) from ?_) (all_cons (show (ρ.z.F.l 4 [.lst (ρ.z.rl 0), .int .i64 (ρ.i .i64 1)]) = (ρ.l 1004) from ?_) (all_cons (show (((ρ.z.F.l 4 [.lst (ρ.z.rl 0), .int .i64 (ρ.i .i64 1)]).length : Nat) : Int) = (ρ.i .i64 1002) from ?_) (all_nil)))
  all_goals try simp only [hF, pi2, pi5, pi6, pi7, pb1, pb2, pb4, pl4, pl6, pl8]
  all_goals
    obtain ⟨hn, hq, h0, h1, h2, h3, hs⟩ := hi
    have e : (ρ.i .i64 1001).toNat = (ρ.i .i64 1).toNat := by omega
    rw [e] at hs
    have x := gst_end hs (by omega)
    have q := gr0 hq h0 h1
    have hl := grant_len (R := ρ.z.rl 0) (f := (ρ.i .i64 1).toNat) (by omega)
    have hr : Typed _ (ρ.l 1004) ∧ ρ.i .i64 1002 = ((ρ.l 1004).length : Int) := kn.rows 3 _ _ _ _ _ _ rfl
    first
      | (rw [q.2, x]; done)
      | (rw [q.2, hl]; omega)
      | (rw [x, hl] at hr; rw [q.2, hl]; omega)
theorem vcgrOk1_1 : VC TTgrOk invgrOk msgrOk 1 tgrOk1 wgrOk1_1 := by
  intro ρ kn hi hp
  have hi : ivgrOk1 ρ := hi
  unfold ivgrOk1 at hi
  have hF : ρ.z.F = wt.Φ := kn.F
  simp only [h_nil, h_cons, d_le, d_eq, d_not, d_var, d_lit, d_cel, d_leq, d_fn, d_and, d_iff, IE.den, LE.den, AL.den, lenV, true_and, and_true, pcgrOk1_1, pcgrOk1_0, hF, pi2, pi5, pi6, pi7, pb1, pb2, pb4, pl4, pl6, pl8] at hp
  obtain ⟨p1, p2, p3, p4, p5, p6, p7, p8, p9, p10, p11, p12, p13, p14, p15, p16, p17, p18, p19, p20, p21, p22⟩ := hp
  refine (show ((ρ.i .i64 1000) = ((ρ.z.rl 0).length : Int) - 1 ∧ queueL (ρ.z.rl 0) = true ∧ 0 ≤ (ρ.i .i64 1) ∧ (ρ.i .i64 1) < ((ρ.z.rl 0).length : Int) ∧ 0 ≤ ((ρ.i .i64 1001) + (1 : Int)) ∧ ((ρ.i .i64 1001) + (1 : Int)) ≤ (ρ.i .i64 1) ∧ GrSt (ρ.z.rl 0) (ρ.i .i64 1).toNat ((ρ.i .i64 1001) + (1 : Int)).toNat (ρ.l 1004)) ∧ (((ρ.z.rl 0).length - ((ρ.i .i64 1001) + (1 : Int)).toNat : Nat) < (ρ.z.rl 0).length - (ρ.i .i64 1001).toNat) from ?_)
  obtain ⟨hn, hq, h0, h1, h2, h3, hs⟩ := hi
  have hT := kn.rom 0 _ _ rfl
  have g : ∀ j, atI (ρ.l 1004) (ρ.i .i64 1001).toNat j = atI (ρ.z.rl 0) (ρ.i .i64 1001).toNat j := fun j => at_of (gst_row hs (by omega) (by omega)) j
  simp only [at_z (i := ρ.i .i64 1) h0, at_z (i := ρ.i .i64 1001) h2, g] at *
  refine ⟨⟨hn, hq, h0, h1, by omega, by omega, ?_⟩, by omega⟩
  rw [at_s h2]
  first
    | exact gst_keep hT hs (by omega) (by omega) (by assumption)
    | exact gst_set hT hs (by omega) (by omega) (by assumption) (by omega)
theorem vcgrOk1_2 : VC TTgrOk invgrOk msgrOk 1 tgrOk1 wgrOk1_2 := by
  intro ρ kn hi hp
  have hi : ivgrOk1 ρ := hi
  unfold ivgrOk1 at hi
  have hF : ρ.z.F = wt.Φ := kn.F
  simp only [h_nil, h_cons, d_le, d_eq, d_not, d_var, d_lit, d_cel, d_leq, d_fn, d_and, d_iff, IE.den, LE.den, AL.den, lenV, true_and, and_true, pcgrOk1_2, pcgrOk1_1, pcgrOk1_0, hF, pi2, pi5, pi6, pi7, pb1, pb2, pb4, pl4, pl6, pl8] at hp
  obtain ⟨p1, p2, p3, p4, p5, p6, p7, p8, p9, p10, p11, p12, p13, p14, p15, p16, p17, p18, p19, p20, p21, p22, p23⟩ := hp
  refine (show ((ρ.i .i64 1000) = ((ρ.z.rl 0).length : Int) - 1 ∧ queueL (ρ.z.rl 0) = true ∧ 0 ≤ (ρ.i .i64 1) ∧ (ρ.i .i64 1) < ((ρ.z.rl 0).length : Int) ∧ 0 ≤ ((ρ.i .i64 1001) + (1 : Int)) ∧ ((ρ.i .i64 1001) + (1 : Int)) ≤ (ρ.i .i64 1) ∧ GrSt (ρ.z.rl 0) (ρ.i .i64 1).toNat ((ρ.i .i64 1001) + (1 : Int)).toNat ((ρ.l 1004).set (ρ.i .i64 1001).toNat [Go.Value.int .i64 (clampK .i64 (intV (celV (ρ.l 1004) (ρ.i .i64 1001) 0))), Go.Value.int .i64 (clampK .i64 (intV (celV (ρ.l 1004) (ρ.i .i64 1001) 1))), Go.Value.int .i64 (clampK .i64 (intV (celV (ρ.l 1004) (ρ.i .i64 1001) 2))), Go.Value.int .i64 (clampK .i64 (intV (celV (ρ.l 1004) (ρ.i .i64 1001) 3))), Go.Value.int .i64 ((clampK .i64 (intV (celV (ρ.l 1004) (ρ.i .i64 1001) 4))) + (1 : Int))])) ∧ (((ρ.z.rl 0).length - ((ρ.i .i64 1001) + (1 : Int)).toNat : Nat) < (ρ.z.rl 0).length - (ρ.i .i64 1001).toNat) from ?_)
  obtain ⟨hn, hq, h0, h1, h2, h3, hs⟩ := hi
  have hT := kn.rom 0 _ _ rfl
  have g : ∀ j, atI (ρ.l 1004) (ρ.i .i64 1001).toNat j = atI (ρ.z.rl 0) (ρ.i .i64 1001).toNat j := fun j => at_of (gst_row hs (by omega) (by omega)) j
  simp only [at_z (i := ρ.i .i64 1) h0, at_z (i := ρ.i .i64 1001) h2, g] at *
  refine ⟨⟨hn, hq, h0, h1, by omega, by omega, ?_⟩, by omega⟩
  rw [at_s h2]
  first
    | exact gst_keep hT hs (by omega) (by omega) (by assumption)
    | exact gst_set hT hs (by omega) (by omega) (by assumption) (by omega)
theorem vcgrOk1_3 : VC TTgrOk invgrOk msgrOk 1 tgrOk1 wgrOk1_3 := by
  intro ρ kn hi hp
  have hi : ivgrOk1 ρ := hi
  unfold ivgrOk1 at hi
  have hF : ρ.z.F = wt.Φ := kn.F
  simp only [h_nil, h_cons, d_le, d_eq, d_not, d_var, d_lit, d_cel, d_leq, d_fn, d_and, d_iff, IE.den, LE.den, AL.den, lenV, true_and, and_true, pcgrOk1_2, pcgrOk1_1, pcgrOk1_0, hF, pi2, pi5, pi6, pi7, pb1, pb2, pb4, pl4, pl6, pl8] at hp
  obtain ⟨p1, p2, p3, p4, p5, p6, p7, p8, p9, p10, p11, p12, p13, p14, p15, p16, p17, p18, p19, p20, p21, p22, p23⟩ := hp
  refine (show ((ρ.i .i64 1000) = ((ρ.z.rl 0).length : Int) - 1 ∧ queueL (ρ.z.rl 0) = true ∧ 0 ≤ (ρ.i .i64 1) ∧ (ρ.i .i64 1) < ((ρ.z.rl 0).length : Int) ∧ 0 ≤ ((ρ.i .i64 1001) + (1 : Int)) ∧ ((ρ.i .i64 1001) + (1 : Int)) ≤ (ρ.i .i64 1) ∧ GrSt (ρ.z.rl 0) (ρ.i .i64 1).toNat ((ρ.i .i64 1001) + (1 : Int)).toNat ((ρ.l 1004).set (ρ.i .i64 1001).toNat [Go.Value.int .i64 (clampK .i64 (intV (celV (ρ.l 1004) (ρ.i .i64 1001) 0))), Go.Value.int .i64 (clampK .i64 (intV (celV (ρ.l 1004) (ρ.i .i64 1001) 1))), Go.Value.int .i64 (clampK .i64 (intV (celV (ρ.l 1004) (ρ.i .i64 1001) 2))), Go.Value.int .i64 (clampK .i64 (intV (celV (ρ.l 1004) (ρ.i .i64 1001) 3))), Go.Value.int .i64 (64 : Int)])) ∧ (((ρ.z.rl 0).length - ((ρ.i .i64 1001) + (1 : Int)).toNat : Nat) < (ρ.z.rl 0).length - (ρ.i .i64 1001).toNat) from ?_)
  obtain ⟨hn, hq, h0, h1, h2, h3, hs⟩ := hi
  have hT := kn.rom 0 _ _ rfl
  have g : ∀ j, atI (ρ.l 1004) (ρ.i .i64 1001).toNat j = atI (ρ.z.rl 0) (ρ.i .i64 1001).toNat j := fun j => at_of (gst_row hs (by omega) (by omega)) j
  simp only [at_z (i := ρ.i .i64 1) h0, at_z (i := ρ.i .i64 1001) h2, g] at *
  refine ⟨⟨hn, hq, h0, h1, by omega, by omega, ?_⟩, by omega⟩
  rw [at_s h2]
  first
    | exact gst_keep hT hs (by omega) (by omega) (by assumption)
    | exact gst_set hT hs (by omega) (by omega) (by assumption) (by omega)
theorem vcsgrOk0 : ∀ v ∈ vwgrOk 0, VC TTgrOk invgrOk msgrOk 0 (startF 32 cGrOk.pat (.lit true :: cGrOk.pre)) v := all_cons vcggrOk0_0.1 (all_cons vcgrOk0_1 (all_cons vcgrOk0_2 (all_cons vcggrOk0_0.2.1 (all_cons vcggrOk0_0.2.2 (all_nil)))))
theorem okgrOk0 : cfgOk (startF 32 cGrOk.pat (.lit true :: cGrOk.pre)) = true := by kernel_rfl
theorem sggrOk0 : segL cGrOk.roms cGrOk (seg TTgrOk selgrOk 3000 tmgrOk (startF 32 cGrOk.pat (.lit true :: cGrOk.pre))) = (true, codesR tmgrOk (views (seg TTgrOk selgrOk 3000 tmgrOk (startF 32 cGrOk.pat (.lit true :: cGrOk.pre)))), vwgrOk 0) := by kernel_rfl
theorem vcsgrOk1 : ∀ v ∈ vwgrOk 1, VC TTgrOk invgrOk msgrOk 1 tgrOk1 v := all_cons vcgrOk1_0 (all_cons vcgrOk1_1 (all_cons vcgrOk1_2 (all_cons vcgrOk1_3 (all_nil))))
theorem okgrOk1 : cfgOk tgrOk1 = true := by kernel_rfl
theorem sggrOk1 : segL cGrOk.roms cGrOk (seg TTgrOk selgrOk 3000 tmgrOk tgrOk1) = (true, codesR tmgrOk (views (seg TTgrOk selgrOk 3000 tmgrOk tgrOk1)), vwgrOk 1) := by kernel_rfl
theorem lngrOk0 : ∀ ρ, Known TTgrOk (startF 32 cGrOk.pat (.lit true :: cGrOk.pre)) ρ → invgrOk 0 ρ.lt → Holds ρ (leanOf (Cfg.pc (startF 32 cGrOk.pat (.lit true :: cGrOk.pre)))) := by
  intro ρ _ _
  exact (show Holds ρ [] from fun p hp => by cases hp)
theorem lngrOk1 : ∀ ρ, Known TTgrOk tgrOk1 ρ → invgrOk 1 ρ.lt → Holds ρ (leanOf (Cfg.pc tgrOk1)) := by
  intro ρ kn hi
  refine (show Holds ρ [.le (.lit 0) (.cel .i64 (.var 1004) (.var .i64 1001) 2), .le (.cel .i64 (.var 1004) (.var .i64 1001) 2) (.lit 5), .le (.lit 0) (.cel .i64 (.var 1004) (.var .i64 1001) 4), .le (.cel .i64 (.var 1004) (.var .i64 1001) 4) (.lit 64), .le (.lit 0) (.cel .i64 (.rom 0) (xv 1) 2), .le (.cel .i64 (.rom 0) (xv 1) 2) (.lit 5), .le (ln 0) (.add (.var .i64 1000) (.lit 1)), .le (.var .i64 1000) (.var .i64 1002)] from ?_)
  have hi : (ρ.i .i64 1000) = ((ρ.z.rl 0).length : Int) - 1 ∧ queueL (ρ.z.rl 0) = true ∧ 0 ≤ (ρ.i .i64 1) ∧ (ρ.i .i64 1) < ((ρ.z.rl 0).length : Int) ∧ 0 ≤ (ρ.i .i64 1001) ∧ (ρ.i .i64 1001) ≤ (ρ.i .i64 1) ∧ GrSt (ρ.z.rl 0) (ρ.i .i64 1).toNat (ρ.i .i64 1001).toNat (ρ.l 1004) := hi
  have hF : ρ.z.F = wt.Φ := kn.F
  simp only [h_nil, h_cons, d_le, d_eq, d_not, d_var, d_lit, d_cel, d_leq, d_fn, d_and, d_iff, IE.den, LE.den, AL.den, lenV, true_and, and_true, hF, pi2, pi5, pi6, pi7, pb1, pb2, pb4, pl4, pl6, pl8]
  obtain ⟨hn, hq, h0, h1, h2, h3, hs⟩ := hi
  have hr : Typed _ (ρ.l 1004) ∧ ρ.i .i64 1002 = ((ρ.l 1004).length : Int) := kn.rows 3 _ _ _ _ _ _ rfl
  have hl := gst_len hs (by omega) (by omega)
  obtain ⟨⟨a1, a2⟩, a3, a4⟩ := gst_any hq hs (by omega) (by omega)
  have q := q_at (i := (ρ.i .i64 1).toNat) hq (by omega)
  simp only [xv, IE.den, LE.den, at_z (i := ρ.i .i64 1) h0, at_z (i := ρ.i .i64 1001) h2, and_true]
  simp only [ln, IE.den, LE.den, lenV]
  omega
theorem told_grOk : Sx.Told wt.Φ cGrOk := by
  refine told_of (cs := [cQueueP, cQueueR, cFitsM, cFits03]) (all_cons told_queueP (all_cons told_queueR (all_cons told_fitsM (all_cons told_fits03 (all_nil))))) (sel := selgrOk) 3000 tmgrOk invgrOk msgrOk vwgrOk 0 (pc0 := (.lit true :: cGrOk.pre)) (by kernel_rfl) (by kernel_rfl) (by kernel_rfl) post_grOk ?_ ?_ ?_ rfl (fun ρ _ h => h.cons (p := .lit true) (by simp only [BE.den])) (fun _ _ _ _ => trivial) ?_
  · intro k C h
    have := lk_mem h
    simp only [tmgrOk, List.mem_cons, Prod.mk.injEq, List.not_mem_nil, or_false] at this
    rcases this with ⟨rfl, rfl⟩ | ⟨rfl, rfl⟩
    · exact okgrOk0
    · exact okgrOk1
  · intro k C h
    have := lk_mem h
    simp only [tmgrOk, List.mem_cons, Prod.mk.injEq, List.not_mem_nil, or_false] at this
    rcases this with ⟨rfl, rfl⟩ | ⟨rfl, rfl⟩
    · exact sggrOk0
    · exact sggrOk1
  · intro k C h
    have := lk_mem h
    simp only [tmgrOk, List.mem_cons, Prod.mk.injEq, List.not_mem_nil, or_false] at this
    rcases this with ⟨rfl, rfl⟩ | ⟨rfl, rfl⟩
    · exact vcsgrOk0
    · exact vcsgrOk1
  · intro k C h
    have := lk_mem h
    simp only [tmgrOk, List.mem_cons, Prod.mk.injEq, List.not_mem_nil, or_false] at this
    rcases this with ⟨rfl, rfl⟩ | ⟨rfl, rfl⟩
    · exact lngrOk0
    · exact lngrOk1
noncomputable section
abbrev TTrgrOk : Tab := T wt.Φ cRGrOk.roms [cQueueP, cQueueR, cFitsM, cFits03]
def trgrOk1 : Cfg := { top := ⟨33, over (opqS 10000 58) [(0, (SV.rom 0 (IE.lit 0) (IE.len (LE.rom 0)) none)), (1, (SV.int .i64 (IE.var .i64 1))), (5, (SV.ptr 0 0)), (7, (SV.sll 2 3 5 (IE.lit 0) (IE.var .i64 1000) none)), (8, (SV.int .i64 (IE.var .i64 1001)))], ogt (loopTodo (bodyOf (T wt.Φ [] []) 33) 0), [], false, none⟩, rest := [], heap := [(0, .cells [(SV.int .i64 (IE.lit 0)), (SV.int .i64 (IE.lit 0)), (SV.int .i64 (IE.lit 0)), (SV.int .i64 (IE.lit 0)), (SV.int .i64 (IE.lit 0))] 25), (2, .rowl (LE.var 1004) (IE.var .i64 1002) [(CK.int .i64), (CK.int .i64), (CK.int .i64), (CK.int .i64), (CK.int .i64)] 25 3 5)], next := 4, pc := .lit true :: ([] ++ [(BE.eq (IE.fn .i64 7 (AL.lst (LE.rom 0) (AL.int .i64 (IE.var .i64 1) AL.nil))) (IE.lit 0)), (BE.le (IE.lit 2) (IE.len (LE.rom 0))), (BE.le (IE.len (LE.rom 0)) (IE.lit 1000)), (BE.fn 4 (AL.lst (LE.rom 0) AL.nil)), (BE.le (IE.lit 0) (IE.var .i64 1)), (BE.not (BE.le (IE.len (LE.rom 0)) (IE.var .i64 1))), (BE.le (IE.lit 0) (IE.var .i64 1000)), (BE.not (BE.le (IE.len (LE.rom 0)) (IE.var .i64 1000))), (BE.le (IE.lit 0) (IE.var .i64 1001)), (BE.not (BE.le (IE.len (LE.rom 0)) (IE.var .i64 1001))), (BE.le (IE.lit 0) (IE.var .i64 1002)), (BE.not (BE.le (IE.len (LE.rom 0)) (IE.var .i64 1002)))] ++ (.and (.lit true) (.lit true)) :: [.le (.lit 0) (.cel .i64 (.var 1004) (.var .i64 1001) 2), .le (.cel .i64 (.var 1004) (.var .i64 1001) 2) (.lit 5), .le (.lit 0) (.cel .i64 (.var 1004) (.var .i64 1001) 4), .le (.cel .i64 (.var 1004) (.var .i64 1001) 4) (.lit 64), .le (.lit 0) (.cel .i64 (.rom 0) (xv 1) 2), .le (.cel .i64 (.rom 0) (xv 1) 2) (.lit 5), .le (ln 0) (.add (.var .i64 1000) (.lit 1)), .le (.var .i64 1000) (.var .i64 1002)]) }
def tmrgrOk : List (Nat × Cfg) := [(0, startF 33 cRGrOk.pat (.lit true :: cRGrOk.pre)), (1, trgrOk1)]
def selrgrOk : Sel := [(33, 1, 0, 1)]
def pcrgrOk0_0 : List BE := [(BE.lit true), (BE.le (IE.len (LE.rom 0)) (IE.lit 1000)), (BE.le (IE.lit 2) (IE.len (LE.rom 0))), (BE.eq (IE.fn .i64 7 (AL.lst (LE.rom 0) (AL.int .i64 (IE.var .i64 1) AL.nil))) (IE.lit 0))]
def pcrgrOk0_1 : List BE := ((BE.fn 4 (AL.lst (LE.rom 0) AL.nil)) :: pcrgrOk0_0)
def pcrgrOk0_2 : List BE := ((BE.le (IE.lit 0) (IE.var .i64 1)) :: pcrgrOk0_1)
def pcrgrOk0_3 : List BE := ((BE.not (BE.le (IE.len (LE.rom 0)) (IE.var .i64 1))) :: pcrgrOk0_2)
def pcrgrOk0_4 : List BE := ((BE.not (BE.le (IE.var .i64 1) (IE.lit 0))) :: pcrgrOk0_3)
def pcrgrOk0_5 : List BE := ((BE.eq (IE.rcap 0) (IE.add (IE.var .i64 1) (IE.lit 1))) :: pcrgrOk0_4)
def pcrgrOk0_6 : List BE := ((BE.not (BE.eq (IE.rcap 0) (IE.add (IE.var .i64 1) (IE.lit 1)))) :: pcrgrOk0_4)
def wrgrOk0_0 : VW := (VW.done ((BE.le (IE.len (LE.rom 0)) (IE.var .i64 1)) :: pcrgrOk0_2) (some [(G.b (BE.lit true) (BE.lit false))]))
def wrgrOk0_1 : VW := (VW.cut 1 ((BE.le (IE.var .i64 1) (IE.lit 0)) :: pcrgrOk0_3) (Sx.Sub.mk [(.i64, (1002, (IE.sub (IE.len (LE.rom 0)) (IE.add (IE.var .i64 1) (IE.lit 1))))), (.i64, (1001, (IE.lit 0))), (.i64, (1000, (IE.sub (IE.len (LE.rom 0)) (IE.add (IE.var .i64 1) (IE.lit 1)))))] [] [(1004, (LE.drop (LE.rom 0) (IE.add (IE.var .i64 1) (IE.lit 1))))] [] [] []))
def wrgrOk0_2 : VW := (VW.cut 1 ((BE.le (IE.add (IE.var .i64 1) (IE.sub (IE.len (LE.rom 0)) (IE.add (IE.var .i64 1) (IE.lit 1)))) (IE.var .i64 1)) :: pcrgrOk0_5) (Sx.Sub.mk [(.i64, (1002, (IE.var .i64 1))), (.i64, (1001, (IE.lit 0))), (.i64, (1000, (IE.add (IE.var .i64 1) (IE.sub (IE.len (LE.rom 0)) (IE.add (IE.var .i64 1) (IE.lit 1))))))] [] [(1004, (LE.cat (LE.cat (LE.take (LE.rom 0) (IE.var .i64 1)) (LE.take (LE.rom 0) (IE.sub (IE.len (LE.rom 0)) (IE.add (IE.var .i64 1) (IE.lit 1))))) (LE.drop (LE.take (LE.rom 0) (IE.var .i64 1)) (IE.add (IE.var .i64 1) (IE.sub (IE.len (LE.rom 0)) (IE.add (IE.var .i64 1) (IE.lit 1)))))))] [] [] []))
def wrgrOk0_3 : VW := (VW.cut 1 ((BE.not (BE.le (IE.add (IE.var .i64 1) (IE.sub (IE.len (LE.rom 0)) (IE.add (IE.var .i64 1) (IE.lit 1)))) (IE.var .i64 1))) :: pcrgrOk0_5) (Sx.Sub.mk [(.i64, (1002, (IE.add (IE.var .i64 1) (IE.sub (IE.len (LE.rom 0)) (IE.add (IE.var .i64 1) (IE.lit 1)))))), (.i64, (1001, (IE.lit 0))), (.i64, (1000, (IE.add (IE.var .i64 1) (IE.sub (IE.len (LE.rom 0)) (IE.add (IE.var .i64 1) (IE.lit 1))))))] [] [(1004, (LE.cat (LE.take (LE.rom 0) (IE.var .i64 1)) (LE.take (LE.rom 0) (IE.sub (IE.len (LE.rom 0)) (IE.add (IE.var .i64 1) (IE.lit 1))))))] [] [] []))
def wrgrOk0_4 : VW := (VW.cut 1 ((BE.le (IE.add (IE.var .i64 1) (IE.sub (IE.len (LE.rom 0)) (IE.add (IE.var .i64 1) (IE.lit 1)))) (IE.var .i64 1)) :: pcrgrOk0_6) (Sx.Sub.mk [(.i64, (1002, (IE.var .i64 1))), (.i64, (1001, (IE.lit 0))), (.i64, (1000, (IE.add (IE.var .i64 1) (IE.sub (IE.len (LE.rom 0)) (IE.add (IE.var .i64 1) (IE.lit 1))))))] [] [(1004, (LE.cat (LE.cat (LE.take (LE.rom 0) (IE.var .i64 1)) (LE.drop (LE.rom 0) (IE.add (IE.var .i64 1) (IE.lit 1)))) (LE.drop (LE.take (LE.rom 0) (IE.var .i64 1)) (IE.add (IE.var .i64 1) (IE.sub (IE.len (LE.rom 0)) (IE.add (IE.var .i64 1) (IE.lit 1)))))))] [] [] []))
def wrgrOk0_5 : VW := (VW.cut 1 ((BE.not (BE.le (IE.add (IE.var .i64 1) (IE.sub (IE.len (LE.rom 0)) (IE.add (IE.var .i64 1) (IE.lit 1)))) (IE.var .i64 1))) :: pcrgrOk0_6) (Sx.Sub.mk [(.i64, (1002, (IE.add (IE.var .i64 1) (IE.sub (IE.len (LE.rom 0)) (IE.add (IE.var .i64 1) (IE.lit 1)))))), (.i64, (1001, (IE.lit 0))), (.i64, (1000, (IE.add (IE.var .i64 1) (IE.sub (IE.len (LE.rom 0)) (IE.add (IE.var .i64 1) (IE.lit 1))))))] [] [(1004, (LE.cat (LE.take (LE.rom 0) (IE.var .i64 1)) (LE.drop (LE.rom 0) (IE.add (IE.var .i64 1) (IE.lit 1)))))] [] [] []))
def wrgrOk0_6 : VW := (VW.done ((BE.not (BE.le (IE.lit 0) (IE.var .i64 1))) :: pcrgrOk0_1) (some [(G.b (BE.lit true) (BE.lit false))]))
def wrgrOk0_7 : VW := (VW.done ((BE.not (BE.fn 4 (AL.lst (LE.rom 0) AL.nil))) :: pcrgrOk0_0) (some [(G.b (BE.lit true) (BE.lit false))]))
def vwrgrOk0 : List VW := [wrgrOk0_0, wrgrOk0_1, wrgrOk0_2, wrgrOk0_3, wrgrOk0_4, wrgrOk0_5, wrgrOk0_6, wrgrOk0_7]
def pcrgrOk1_0 : List BE := [(BE.lit true), (BE.eq (IE.fn .i64 7 (AL.lst (LE.rom 0) (AL.int .i64 (IE.var .i64 1) AL.nil))) (IE.lit 0)), (BE.le (IE.lit 2) (IE.len (LE.rom 0))), (BE.le (IE.len (LE.rom 0)) (IE.lit 1000)), (BE.fn 4 (AL.lst (LE.rom 0) AL.nil)), (BE.le (IE.lit 0) (IE.var .i64 1)), (BE.not (BE.le (IE.len (LE.rom 0)) (IE.var .i64 1))), (BE.le (IE.lit 0) (IE.var .i64 1000)), (BE.not (BE.le (IE.len (LE.rom 0)) (IE.var .i64 1000))), (BE.le (IE.lit 0) (IE.var .i64 1001)), (BE.not (BE.le (IE.len (LE.rom 0)) (IE.var .i64 1001))), (BE.le (IE.lit 0) (IE.var .i64 1002)), (BE.not (BE.le (IE.len (LE.rom 0)) (IE.var .i64 1002))), (BE.and (BE.lit true) (BE.lit true)), (BE.le (IE.lit 0) (IE.cel .i64 (LE.var 1004) (IE.var .i64 1001) 2)), (BE.le (IE.cel .i64 (LE.var 1004) (IE.var .i64 1001) 2) (IE.lit 5)), (BE.le (IE.lit 0) (IE.cel .i64 (LE.var 1004) (IE.var .i64 1001) 4)), (BE.le (IE.cel .i64 (LE.var 1004) (IE.var .i64 1001) 4) (IE.lit 64)), (BE.le (IE.lit 0) (IE.cel .i64 (LE.rom 0) (IE.var .i64 1) 2)), (BE.le (IE.cel .i64 (LE.rom 0) (IE.var .i64 1) 2) (IE.lit 5)), (BE.le (IE.len (LE.rom 0)) (IE.add (IE.var .i64 1000) (IE.lit 1))), (BE.le (IE.var .i64 1000) (IE.var .i64 1002))]
def pcrgrOk1_1 : List BE := ((BE.not (BE.le (IE.var .i64 1) (IE.var .i64 1001))) :: pcrgrOk1_0)
def pcrgrOk1_2 : List BE := ((BE.not (BE.fn 1 (AL.int .i64 (IE.cel .i64 (LE.rom 0) (IE.var .i64 1001) 2) (AL.int .i64 (IE.cel .i64 (LE.rom 0) (IE.var .i64 1) 2) AL.nil)))) :: pcrgrOk1_1)
def wrgrOk1_0 : VW := (VW.done ((BE.le (IE.var .i64 1) (IE.var .i64 1001)) :: pcrgrOk1_0) (some [(G.i (IE.len (LE.fn 4 (AL.lst (LE.rom 0) (AL.int .i64 (IE.var .i64 1) AL.nil)))) (IE.var .i64 1000)), (G.l (LE.fn 4 (AL.lst (LE.rom 0) (AL.int .i64 (IE.var .i64 1) AL.nil))) (LE.var 1004)), (G.i (IE.len (LE.fn 4 (AL.lst (LE.rom 0) (AL.int .i64 (IE.var .i64 1) AL.nil)))) (IE.var .i64 1002))]))
def wrgrOk1_1 : VW := (VW.cut 1 ((BE.fn 1 (AL.int .i64 (IE.cel .i64 (LE.rom 0) (IE.var .i64 1001) 2) (AL.int .i64 (IE.cel .i64 (LE.rom 0) (IE.var .i64 1) 2) AL.nil))) :: pcrgrOk1_1) (Sx.Sub.mk [(.i64, (1002, (IE.var .i64 1002))), (.i64, (1001, (IE.add (IE.var .i64 1001) (IE.lit 1)))), (.i64, (1000, (IE.var .i64 1000)))] [] [(1004, (LE.var 1004))] [] [] []))
def wrgrOk1_2 : VW := (VW.cut 1 ((BE.le (IE.lit 64) (IE.add (IE.cel .i64 (LE.var 1004) (IE.var .i64 1001) 4) (IE.lit 1))) :: pcrgrOk1_2) (Sx.Sub.mk [(.i64, (1002, (IE.var .i64 1002))), (.i64, (1001, (IE.add (IE.var .i64 1001) (IE.lit 1)))), (.i64, (1000, (IE.var .i64 1000)))] [] [(1004, (LE.set (LE.var 1004) (IE.var .i64 1001) (AL.int .i64 (IE.cel .i64 (LE.var 1004) (IE.var .i64 1001) 0) (AL.int .i64 (IE.cel .i64 (LE.var 1004) (IE.var .i64 1001) 1) (AL.int .i64 (IE.cel .i64 (LE.var 1004) (IE.var .i64 1001) 2) (AL.int .i64 (IE.cel .i64 (LE.var 1004) (IE.var .i64 1001) 3) (AL.int .i64 (IE.lit 64) AL.nil)))))))] [] [] []))
def wrgrOk1_3 : VW := (VW.cut 1 ((BE.not (BE.le (IE.lit 64) (IE.add (IE.cel .i64 (LE.var 1004) (IE.var .i64 1001) 4) (IE.lit 1)))) :: pcrgrOk1_2) (Sx.Sub.mk [(.i64, (1002, (IE.var .i64 1002))), (.i64, (1001, (IE.add (IE.var .i64 1001) (IE.lit 1)))), (.i64, (1000, (IE.var .i64 1000)))] [] [(1004, (LE.set (LE.var 1004) (IE.var .i64 1001) (AL.int .i64 (IE.cel .i64 (LE.var 1004) (IE.var .i64 1001) 0) (AL.int .i64 (IE.cel .i64 (LE.var 1004) (IE.var .i64 1001) 1) (AL.int .i64 (IE.cel .i64 (LE.var 1004) (IE.var .i64 1001) 2) (AL.int .i64 (IE.cel .i64 (LE.var 1004) (IE.var .i64 1001) 3) (AL.int .i64 (IE.add (IE.cel .i64 (LE.var 1004) (IE.var .i64 1001) 4) (IE.lit 1)) AL.nil)))))))] [] [] []))
def vwrgrOk1 : List VW := [wrgrOk1_0, wrgrOk1_1, wrgrOk1_2, wrgrOk1_3]
def vwrgrOk : Nat → List VW
  | 0 => vwrgrOk0
  | 1 => vwrgrOk1
  | _ => []
end
def invrgrOk : Nat → Lt → Prop
  | 1, l => (l.i .i64 1000) = ((l.z.rl 0).length : Int) - 1 ∧ queueL (l.z.rl 0) = true ∧ 0 ≤ (l.i .i64 1) ∧ (l.i .i64 1) < ((l.z.rl 0).length : Int) ∧ 0 ≤ (l.i .i64 1001) ∧ (l.i .i64 1001) ≤ (l.i .i64 1) ∧ GrSt (l.z.rl 0) (l.i .i64 1).toNat (l.i .i64 1001).toNat (l.l 1004)
  | _, _ => True
def msrgrOk : Nat → Lt → Nat
  | 0, l => (l.z.rl 0).length + 1
  | 1, l => (l.z.rl 0).length - (l.i .i64 1001).toNat
  | _, _ => 0
theorem vcgrgrOk0_0 : VC TTrgrOk invrgrOk msrgrOk 0 (startF 33 cRGrOk.pat (.lit true :: cRGrOk.pre)) wrgrOk0_0 ∧ VC TTrgrOk invrgrOk msrgrOk 0 (startF 33 cRGrOk.pat (.lit true :: cRGrOk.pre)) wrgrOk0_6 ∧ VC TTrgrOk invrgrOk msrgrOk 0 (startF 33 cRGrOk.pat (.lit true :: cRGrOk.pre)) wrgrOk0_7 := by
  refine ⟨?_, ?_, ?_⟩
  all_goals
    intro ρ kn hi hp
    have hF : ρ.z.F = wt.Φ := kn.F
    simp only [h_nil, h_cons, d_le, d_eq, d_not, d_var, d_lit, d_cel, d_leq, d_fn, d_and, d_iff, IE.den, LE.den, AL.den, lenV, true_and, and_true, pcrgrOk0_2, pcrgrOk0_1, pcrgrOk0_0, hF, pi2, pi5, pi6, pi7, pb1, pb2, pb4, pl4, pl6, pl8] at hp
    have p1 := And.left hp
    replace hp := And.right hp
    repeat (have _ := And.left hp; replace hp := And.right hp)
    exfalso
    all_goals
      simp only [grE_in] at *
      first
        | (have q := gr2 (f := ρ.i .i64 1) (by assumption : ¬ queueL (ρ.z.rl 0) = true); omega)
        | (have q := gr4 (l := ρ.z.rl 0) (f := ρ.i .i64 1) (by assumption) (by omega); omega)
theorem vcrgrOk0_1 : VC TTrgrOk invrgrOk msrgrOk 0 (startF 33 cRGrOk.pat (.lit true :: cRGrOk.pre)) wrgrOk0_1 := by
  intro ρ kn hi hp
  have hF : ρ.z.F = wt.Φ := kn.F
  simp only [h_nil, h_cons, d_le, d_eq, d_not, d_var, d_lit, d_cel, d_leq, d_fn, d_and, d_iff, IE.den, LE.den, AL.den, lenV, true_and, and_true, pcrgrOk0_3, pcrgrOk0_2, pcrgrOk0_1, pcrgrOk0_0, hF, pi2, pi5, pi6, pi7, pb1, pb2, pb4, pl4, pl6, pl8] at hp
  obtain ⟨p1, p2, p3, p4, p5, p6, p7⟩ := hp
  refine (show (((((ρ.z.rl 0).length : Nat) : Int) - ((ρ.i .i64 1) + (1 : Int))) = ((ρ.z.rl 0).length : Int) - 1 ∧ queueL (ρ.z.rl 0) = true ∧ 0 ≤ (ρ.i .i64 1) ∧ (ρ.i .i64 1) < ((ρ.z.rl 0).length : Int) ∧ 0 ≤ (0 : Int) ∧ (0 : Int) ≤ (ρ.i .i64 1) ∧ GrSt (ρ.z.rl 0) (ρ.i .i64 1).toNat (0 : Int).toNat ((ρ.z.rl 0).drop ((ρ.i .i64 1) + (1 : Int)).toNat)) ∧ (((ρ.z.rl 0).length - (0 : Int).toNat : Nat) < (ρ.z.rl 0).length + 1) from ?_)
  refine ⟨⟨by omega, by assumption, by omega, by omega, by omega, by omega, gst0 ?_⟩, by omega⟩
  have hcap := kn.cap 0 _ _ rfl
  obtain ⟨f, hf⟩ : ∃ f : Nat, ρ.i .i64 1 = (f : Int) := ⟨(ρ.i .i64 1).toNat, by omega⟩
  simp only [hf] at *
  refine Eq.symm ?_
  have t1 : ((f : Int) + 1).toNat = f + 1 := by omega
  rw [cutL]
  simp only [Int.toNat_natCast, t1]
  first
    | done
    | rfl
    | (rw [show f = 0 by omega]; rfl)
    | (have d : List.drop (f + 1) (ρ.z.rl 0) = [] := List.drop_eq_nil_of_le (by omega)
       have d2 : ∀ n : Nat, f ≤ n → List.drop n (List.take f (ρ.z.rl 0)) = [] := fun n h => List.drop_eq_nil_of_le (by rw [List.length_take]; omega)
       rw [d, List.append_nil]
       try rw [show ((((ρ.z.rl 0).length : Nat) : Int) - ((f : Int) + 1)).toNat = 0 by omega, List.take_zero]
       try rw [d]
       try rw [d2 _ (by omega)]
       simp only [List.append_nil])
    | (exfalso; omega)
theorem vcrgrOk0_2 : VC TTrgrOk invrgrOk msrgrOk 0 (startF 33 cRGrOk.pat (.lit true :: cRGrOk.pre)) wrgrOk0_2 := by
  intro ρ kn hi hp
  have hF : ρ.z.F = wt.Φ := kn.F
  simp only [h_nil, h_cons, d_le, d_eq, d_not, d_var, d_lit, d_cel, d_leq, d_fn, d_and, d_iff, IE.den, LE.den, AL.den, lenV, true_and, and_true, pcrgrOk0_5, pcrgrOk0_4, pcrgrOk0_3, pcrgrOk0_2, pcrgrOk0_1, pcrgrOk0_0, hF, pi2, pi5, pi6, pi7, pb1, pb2, pb4, pl4, pl6, pl8] at hp
  obtain ⟨p1, p2, p3, p4, p5, p6, p7, p8, p9⟩ := hp
  refine (show (((ρ.i .i64 1) + ((((ρ.z.rl 0).length : Nat) : Int) - ((ρ.i .i64 1) + (1 : Int)))) = ((ρ.z.rl 0).length : Int) - 1 ∧ queueL (ρ.z.rl 0) = true ∧ 0 ≤ (ρ.i .i64 1) ∧ (ρ.i .i64 1) < ((ρ.z.rl 0).length : Int) ∧ 0 ≤ (0 : Int) ∧ (0 : Int) ≤ (ρ.i .i64 1) ∧ GrSt (ρ.z.rl 0) (ρ.i .i64 1).toNat (0 : Int).toNat ((((ρ.z.rl 0).take (ρ.i .i64 1).toNat) ++ ((ρ.z.rl 0).take ((((ρ.z.rl 0).length : Nat) : Int) - ((ρ.i .i64 1) + (1 : Int))).toNat)) ++ (((ρ.z.rl 0).take (ρ.i .i64 1).toNat).drop ((ρ.i .i64 1) + ((((ρ.z.rl 0).length : Nat) : Int) - ((ρ.i .i64 1) + (1 : Int)))).toNat))) ∧ (((ρ.z.rl 0).length - (0 : Int).toNat : Nat) < (ρ.z.rl 0).length + 1) from ?_)
  refine ⟨⟨by omega, by assumption, by omega, by omega, by omega, by omega, gst0 ?_⟩, by omega⟩
  have hcap := kn.cap 0 _ _ rfl
  obtain ⟨f, hf⟩ : ∃ f : Nat, ρ.i .i64 1 = (f : Int) := ⟨(ρ.i .i64 1).toNat, by omega⟩
  simp only [hf] at *
  refine Eq.symm ?_
  have t1 : ((f : Int) + 1).toNat = f + 1 := by omega
  rw [cutL]
  simp only [Int.toNat_natCast, t1]
  first
    | done
    | rfl
    | (rw [show f = 0 by omega]; rfl)
    | (have d : List.drop (f + 1) (ρ.z.rl 0) = [] := List.drop_eq_nil_of_le (by omega)
       have d2 : ∀ n : Nat, f ≤ n → List.drop n (List.take f (ρ.z.rl 0)) = [] := fun n h => List.drop_eq_nil_of_le (by rw [List.length_take]; omega)
       rw [d, List.append_nil]
       try rw [show ((((ρ.z.rl 0).length : Nat) : Int) - ((f : Int) + 1)).toNat = 0 by omega, List.take_zero]
       try rw [d]
       try rw [d2 _ (by omega)]
       simp only [List.append_nil])
    | (exfalso; omega)
theorem vcrgrOk0_3 : VC TTrgrOk invrgrOk msrgrOk 0 (startF 33 cRGrOk.pat (.lit true :: cRGrOk.pre)) wrgrOk0_3 := by
  intro ρ kn hi hp
  have hF : ρ.z.F = wt.Φ := kn.F
  simp only [h_nil, h_cons, d_le, d_eq, d_not, d_var, d_lit, d_cel, d_leq, d_fn, d_and, d_iff, IE.den, LE.den, AL.den, lenV, true_and, and_true, pcrgrOk0_5, pcrgrOk0_4, pcrgrOk0_3, pcrgrOk0_2, pcrgrOk0_1, pcrgrOk0_0, hF, pi2, pi5, pi6, pi7, pb1, pb2, pb4, pl4, pl6, pl8] at hp
  obtain ⟨p1, p2, p3, p4, p5, p6, p7, p8, p9⟩ := hp
  refine (show (((ρ.i .i64 1) + ((((ρ.z.rl 0).length : Nat) : Int) - ((ρ.i .i64 1) + (1 : Int)))) = ((ρ.z.rl 0).length : Int) - 1 ∧ queueL (ρ.z.rl 0) = true ∧ 0 ≤ (ρ.i .i64 1) ∧ (ρ.i .i64 1) < ((ρ.z.rl 0).length : Int) ∧ 0 ≤ (0 : Int) ∧ (0 : Int) ≤ (ρ.i .i64 1) ∧ GrSt (ρ.z.rl 0) (ρ.i .i64 1).toNat (0 : Int).toNat (((ρ.z.rl 0).take (ρ.i .i64 1).toNat) ++ ((ρ.z.rl 0).take ((((ρ.z.rl 0).length : Nat) : Int) - ((ρ.i .i64 1) + (1 : Int))).toNat))) ∧ (((ρ.z.rl 0).length - (0 : Int).toNat : Nat) < (ρ.z.rl 0).length + 1) from ?_)
  refine ⟨⟨by omega, by assumption, by omega, by omega, by omega, by omega, gst0 ?_⟩, by omega⟩
  have hcap := kn.cap 0 _ _ rfl
  obtain ⟨f, hf⟩ : ∃ f : Nat, ρ.i .i64 1 = (f : Int) := ⟨(ρ.i .i64 1).toNat, by omega⟩
  simp only [hf] at *
  refine Eq.symm ?_
  have t1 : ((f : Int) + 1).toNat = f + 1 := by omega
  rw [cutL]
  simp only [Int.toNat_natCast, t1]
  first
    | done
    | rfl
    | (rw [show f = 0 by omega]; rfl)
    | (have d : List.drop (f + 1) (ρ.z.rl 0) = [] := List.drop_eq_nil_of_le (by omega)
       have d2 : ∀ n : Nat, f ≤ n → List.drop n (List.take f (ρ.z.rl 0)) = [] := fun n h => List.drop_eq_nil_of_le (by rw [List.length_take]; omega)
       rw [d, List.append_nil]
       try rw [show ((((ρ.z.rl 0).length : Nat) : Int) - ((f : Int) + 1)).toNat = 0 by omega, List.take_zero]
       try rw [d]
       try rw [d2 _ (by omega)]
       simp only [List.append_nil])
    | (exfalso; omega)
theorem vcrgrOk0_4 : VC TTrgrOk invrgrOk msrgrOk 0 (startF 33 cRGrOk.pat (.lit true :: cRGrOk.pre)) wrgrOk0_4 := by
  intro ρ kn hi hp
  have hF : ρ.z.F = wt.Φ := kn.F
  simp only [h_nil, h_cons, d_le, d_eq, d_not, d_var, d_lit, d_cel, d_leq, d_fn, d_and, d_iff, IE.den, LE.den, AL.den, lenV, true_and, and_true, pcrgrOk0_6, pcrgrOk0_4, pcrgrOk0_3, pcrgrOk0_2, pcrgrOk0_1, pcrgrOk0_0, hF, pi2, pi5, pi6, pi7, pb1, pb2, pb4, pl4, pl6, pl8] at hp
  obtain ⟨p1, p2, p3, p4, p5, p6, p7, p8, p9⟩ := hp
  refine (show (((ρ.i .i64 1) + ((((ρ.z.rl 0).length : Nat) : Int) - ((ρ.i .i64 1) + (1 : Int)))) = ((ρ.z.rl 0).length : Int) - 1 ∧ queueL (ρ.z.rl 0) = true ∧ 0 ≤ (ρ.i .i64 1) ∧ (ρ.i .i64 1) < ((ρ.z.rl 0).length : Int) ∧ 0 ≤ (0 : Int) ∧ (0 : Int) ≤ (ρ.i .i64 1) ∧ GrSt (ρ.z.rl 0) (ρ.i .i64 1).toNat (0 : Int).toNat ((((ρ.z.rl 0).take (ρ.i .i64 1).toNat) ++ ((ρ.z.rl 0).drop ((ρ.i .i64 1) + (1 : Int)).toNat)) ++ (((ρ.z.rl 0).take (ρ.i .i64 1).toNat).drop ((ρ.i .i64 1) + ((((ρ.z.rl 0).length : Nat) : Int) - ((ρ.i .i64 1) + (1 : Int)))).toNat))) ∧ (((ρ.z.rl 0).length - (0 : Int).toNat : Nat) < (ρ.z.rl 0).length + 1) from ?_)
  refine ⟨⟨by omega, by assumption, by omega, by omega, by omega, by omega, gst0 ?_⟩, by omega⟩
  have hcap := kn.cap 0 _ _ rfl
  obtain ⟨f, hf⟩ : ∃ f : Nat, ρ.i .i64 1 = (f : Int) := ⟨(ρ.i .i64 1).toNat, by omega⟩
  simp only [hf] at *
  refine Eq.symm ?_
  have t1 : ((f : Int) + 1).toNat = f + 1 := by omega
  rw [cutL]
  simp only [Int.toNat_natCast, t1]
  first
    | done
    | rfl
    | (rw [show f = 0 by omega]; rfl)
    | (have d : List.drop (f + 1) (ρ.z.rl 0) = [] := List.drop_eq_nil_of_le (by omega)
       have d2 : ∀ n : Nat, f ≤ n → List.drop n (List.take f (ρ.z.rl 0)) = [] := fun n h => List.drop_eq_nil_of_le (by rw [List.length_take]; omega)
       rw [d, List.append_nil]
       try rw [show ((((ρ.z.rl 0).length : Nat) : Int) - ((f : Int) + 1)).toNat = 0 by omega, List.take_zero]
       try rw [d]
       try rw [d2 _ (by omega)]
       simp only [List.append_nil])
    | (exfalso; omega)
theorem vcrgrOk0_5 : VC TTrgrOk invrgrOk msrgrOk 0 (startF 33 cRGrOk.pat (.lit true :: cRGrOk.pre)) wrgrOk0_5 := by
  intro ρ kn hi hp
  have hF : ρ.z.F = wt.Φ := kn.F
  simp only [h_nil, h_cons, d_le, d_eq, d_not, d_var, d_lit, d_cel, d_leq, d_fn, d_and, d_iff, IE.den, LE.den, AL.den, lenV, true_and, and_true, pcrgrOk0_6, pcrgrOk0_4, pcrgrOk0_3, pcrgrOk0_2, pcrgrOk0_1, pcrgrOk0_0, hF, pi2, pi5, pi6, pi7, pb1, pb2, pb4, pl4, pl6, pl8] at hp
  obtain ⟨p1, p2, p3, p4, p5, p6, p7, p8, p9⟩ := hp
  refine (show (((ρ.i .i64 1) + ((((ρ.z.rl 0).length : Nat) : Int) - ((ρ.i .i64 1) + (1 : Int)))) = ((ρ.z.rl 0).length : Int) - 1 ∧ queueL (ρ.z.rl 0) = true ∧ 0 ≤ (ρ.i .i64 1) ∧ (ρ.i .i64 1) < ((ρ.z.rl 0).length : Int) ∧ 0 ≤ (0 : Int) ∧ (0 : Int) ≤ (ρ.i .i64 1) ∧ GrSt (ρ.z.rl 0) (ρ.i .i64 1).toNat (0 : Int).toNat (((ρ.z.rl 0).take (ρ.i .i64 1).toNat) ++ ((ρ.z.rl 0).drop ((ρ.i .i64 1) + (1 : Int)).toNat))) ∧ (((ρ.z.rl 0).length - (0 : Int).toNat : Nat) < (ρ.z.rl 0).length + 1) from ?_)
  refine ⟨⟨by omega, by assumption, by omega, by omega, by omega, by omega, gst0 ?_⟩, by omega⟩
  have hcap := kn.cap 0 _ _ rfl
  obtain ⟨f, hf⟩ : ∃ f : Nat, ρ.i .i64 1 = (f : Int) := ⟨(ρ.i .i64 1).toNat, by omega⟩
  simp only [hf] at *
  refine Eq.symm ?_
  have t1 : ((f : Int) + 1).toNat = f + 1 := by omega
  rw [cutL]
  simp only [Int.toNat_natCast, t1]
  first
    | done
    | rfl
    | (rw [show f = 0 by omega]; rfl)
    | (have d : List.drop (f + 1) (ρ.z.rl 0) = [] := List.drop_eq_nil_of_le (by omega)
       have d2 : ∀ n : Nat, f ≤ n → List.drop n (List.take f (ρ.z.rl 0)) = [] := fun n h => List.drop_eq_nil_of_le (by rw [List.length_take]; omega)
       rw [d, List.append_nil]
       try rw [show ((((ρ.z.rl 0).length : Nat) : Int) - ((f : Int) + 1)).toNat = 0 by omega, List.take_zero]
       try rw [d]
       try rw [d2 _ (by omega)]
       simp only [List.append_nil])
    | (exfalso; omega)
def ivrgrOk1 (ρ : Rho) : Prop := (ρ.i .i64 1000) = ((ρ.z.rl 0).length : Int) - 1 ∧ queueL (ρ.z.rl 0) = true ∧ 0 ≤ (ρ.i .i64 1) ∧ (ρ.i .i64 1) < ((ρ.z.rl 0).length : Int) ∧ 0 ≤ (ρ.i .i64 1001) ∧ (ρ.i .i64 1001) ≤ (ρ.i .i64 1) ∧ GrSt (ρ.z.rl 0) (ρ.i .i64 1).toNat (ρ.i .i64 1001).toNat (ρ.l 1004)
theorem vcrgrOk1_0 : VC TTrgrOk invrgrOk msrgrOk 1 trgrOk1 wrgrOk1_0 := by
  intro ρ kn hi hp
  have hi : ivrgrOk1 ρ := hi
  unfold ivrgrOk1 at hi
  have hr2 : Typed [(CK.int .i64), (CK.int .i64), (CK.int .i64), (CK.int .i64), (CK.int .i64)] (ρ.l 1004) ∧ (ρ.i .i64 1002) = (((ρ.l 1004)).length : Int) := kn.rows 2 _ _ _ _ _ _ rfl
  have hF : ρ.z.F = wt.Φ := kn.F
  simp only [h_nil, h_cons, d_le, d_eq, d_not, d_var, d_lit, d_cel, d_leq, d_fn, d_and, d_iff, IE.den, LE.den, AL.den, lenV, true_and, and_true, pcrgrOk1_0, hF, pi2, pi5, pi6, pi7, pb1, pb2, pb4, pl4, pl6, pl8] at hp
  obtain ⟨p1, p2, p3, p4, p5, p6, p7, p8, p9, p10, p11, p12, p13, p14, p15, p16, p17, p18, p19, p20, p21⟩ := hp
  refine all_cons (show (((ρ.z.F.l 4 [.lst (ρ.z.rl 0), .int .i64 (ρ.i .i64 1)]).length : Nat) : Int) = (ρ.i .i64 1000) from ?_) (all_cons (show (ρ.z.F.l 4 [.lst (ρ.z.rl 0), .int .i64 (ρ.i .i64 1)]) = (ρ.l 1004) from ?_) (all_cons (show (((ρ.z.F.l 4 [.lst (ρ.z.rl 0), .int .i64 (ρ.i .i64 1)]).length : Nat) : Int) = (ρ.i .i64 1002) from ?_) (all_nil)))
  all_goals try simp only [hF, pi2, pi5, pi6, pi7, pb1, pb2, pb4, pl4, pl6, pl8]
  all_goals
    obtain ⟨hn, hq, h0, h1, h2, h3, hs⟩ := hi
    have e : (ρ.i .i64 1001).toNat = (ρ.i .i64 1).toNat := by omega
    rw [e] at hs
    have x := gst_end hs (by omega)
    have q := gr0 hq h0 h1
    have hl := grant_len (R := ρ.z.rl 0) (f := (ρ.i .i64 1).toNat) (by omega)
    have hr : Typed _ (ρ.l 1004) ∧ ρ.i .i64 1002 = ((ρ.l 1004).length : Int) := kn.rows 2 _ _ _ _ _ _ rfl
    first
      | (rw [q.2, x]; done)
      | (rw [q.2, hl]; omega)
      | (rw [x, hl] at hr; rw [q.2, hl]; omega)
theorem vcrgrOk1_1 : VC TTrgrOk invrgrOk msrgrOk 1 trgrOk1 wrgrOk1_1 := by
  intro ρ kn hi hp
  have hi : ivrgrOk1 ρ := hi
  unfold ivrgrOk1 at hi
  have hF : ρ.z.F = wt.Φ := kn.F
  simp only [h_nil, h_cons, d_le, d_eq, d_not, d_var, d_lit, d_cel, d_leq, d_fn, d_and, d_iff, IE.den, LE.den, AL.den, lenV, true_and, and_true, pcrgrOk1_1, pcrgrOk1_0, hF, pi2, pi5, pi6, pi7, pb1, pb2, pb4, pl4, pl6, pl8] at hp
  obtain ⟨p1, p2, p3, p4, p5, p6, p7, p8, p9, p10, p11, p12, p13, p14, p15, p16, p17, p18, p19, p20, p21, p22⟩ := hp
  refine (show ((ρ.i .i64 1000) = ((ρ.z.rl 0).length : Int) - 1 ∧ queueL (ρ.z.rl 0) = true ∧ 0 ≤ (ρ.i .i64 1) ∧ (ρ.i .i64 1) < ((ρ.z.rl 0).length : Int) ∧ 0 ≤ ((ρ.i .i64 1001) + (1 : Int)) ∧ ((ρ.i .i64 1001) + (1 : Int)) ≤ (ρ.i .i64 1) ∧ GrSt (ρ.z.rl 0) (ρ.i .i64 1).toNat ((ρ.i .i64 1001) + (1 : Int)).toNat (ρ.l 1004)) ∧ (((ρ.z.rl 0).length - ((ρ.i .i64 1001) + (1 : Int)).toNat : Nat) < (ρ.z.rl 0).length - (ρ.i .i64 1001).toNat) from ?_)
  obtain ⟨hn, hq, h0, h1, h2, h3, hs⟩ := hi
  have hT := kn.rom 0 _ _ rfl
  have g : ∀ j, atI (ρ.l 1004) (ρ.i .i64 1001).toNat j = atI (ρ.z.rl 0) (ρ.i .i64 1001).toNat j := fun j => at_of (gst_row hs (by omega) (by omega)) j
  simp only [at_z (i := ρ.i .i64 1) h0, at_z (i := ρ.i .i64 1001) h2, g] at *
  refine ⟨⟨hn, hq, h0, h1, by omega, by omega, ?_⟩, by omega⟩
  rw [at_s h2]
  first
    | exact gst_keep hT hs (by omega) (by omega) (by assumption)
    | exact gst_set hT hs (by omega) (by omega) (by assumption) (by omega)
theorem vcrgrOk1_2 : VC TTrgrOk invrgrOk msrgrOk 1 trgrOk1 wrgrOk1_2 := by
  intro ρ kn hi hp
  have hi : ivrgrOk1 ρ := hi
  unfold ivrgrOk1 at hi
  have hF : ρ.z.F = wt.Φ := kn.F
  simp only [h_nil, h_cons, d_le, d_eq, d_not, d_var, d_lit, d_cel, d_leq, d_fn, d_and, d_iff, IE.den, LE.den, AL.den, lenV, true_and, and_true, pcrgrOk1_2, pcrgrOk1_1, pcrgrOk1_0, hF, pi2, pi5, pi6, pi7, pb1, pb2, pb4, pl4, pl6, pl8] at hp
  obtain ⟨p1, p2, p3, p4, p5, p6, p7, p8, p9, p10, p11, p12, p13, p14, p15, p16, p17, p18, p19, p20, p21, p22, p23⟩ := hp
  refine (show ((ρ.i .i64 1000) = ((ρ.z.rl 0).length : Int) - 1 ∧ queueL (ρ.z.rl 0) = true ∧ 0 ≤ (ρ.i .i64 1) ∧ (ρ.i .i64 1) < ((ρ.z.rl 0).length : Int) ∧ 0 ≤ ((ρ.i .i64 1001) + (1 : Int)) ∧ ((ρ.i .i64 1001) + (1 : Int)) ≤ (ρ.i .i64 1) ∧ GrSt (ρ.z.rl 0) (ρ.i .i64 1).toNat ((ρ.i .i64 1001) + (1 : Int)).toNat ((ρ.l 1004).set (ρ.i .i64 1001).toNat [Go.Value.int .i64 (clampK .i64 (intV (celV (ρ.l 1004) (ρ.i .i64 1001) 0))), Go.Value.int .i64 (clampK .i64 (intV (celV (ρ.l 1004) (ρ.i .i64 1001) 1))), Go.Value.int .i64 (clampK .i64 (intV (celV (ρ.l 1004) (ρ.i .i64 1001) 2))), Go.Value.int .i64 (clampK .i64 (intV (celV (ρ.l 1004) (ρ.i .i64 1001) 3))), Go.Value.int .i64 (64 : Int)])) ∧ (((ρ.z.rl 0).length - ((ρ.i .i64 1001) + (1 : Int)).toNat : Nat) < (ρ.z.rl 0).length - (ρ.i .i64 1001).toNat) from ?_)
  obtain ⟨hn, hq, h0, h1, h2, h3, hs⟩ := hi
  have hT := kn.rom 0 _ _ rfl
  have g : ∀ j, atI (ρ.l 1004) (ρ.i .i64 1001).toNat j = atI (ρ.z.rl 0) (ρ.i .i64 1001).toNat j := fun j => at_of (gst_row hs (by omega) (by omega)) j
  simp only [at_z (i := ρ.i .i64 1) h0, at_z (i := ρ.i .i64 1001) h2, g] at *
  refine ⟨⟨hn, hq, h0, h1, by omega, by omega, ?_⟩, by omega⟩
  rw [at_s h2]
  first
    | exact gst_keep hT hs (by omega) (by omega) (by assumption)
    | exact gst_set hT hs (by omega) (by omega) (by assumption) (by omega)
theorem vcrgrOk1_3 : VC TTrgrOk invrgrOk msrgrOk 1 trgrOk1 wrgrOk1_3 := by
  intro ρ kn hi hp
  have hi : ivrgrOk1 ρ := hi
  unfold ivrgrOk1 at hi
  have hF : ρ.z.F = wt.Φ := kn.F
  simp only [h_nil, h_cons, d_le, d_eq, d_not, d_var, d_lit, d_cel, d_leq, d_fn, d_and, d_iff, IE.den, LE.den, AL.den, lenV, true_and, and_true, pcrgrOk1_2, pcrgrOk1_1, pcrgrOk1_0, hF, pi2, pi5, pi6, pi7, pb1, pb2, pb4, pl4, pl6, pl8] at hp
  obtain ⟨p1, p2, p3, p4, p5, p6, p7, p8, p9, p10, p11, p12, p13, p14, p15, p16, p17, p18, p19, p20, p21, p22, p23⟩ := hp
  refine (show ((ρ.i .i64 1000) = ((ρ.z.rl 0).length : Int) - 1 ∧ queueL (ρ.z.rl 0) = true ∧ 0 ≤ (ρ.i .i64 1) ∧ (ρ.i .i64 1) < ((ρ.z.rl 0).length : Int) ∧ 0 ≤ ((ρ.i .i64 1001) + (1 : Int)) ∧ ((ρ.i .i64 1001) + (1 : Int)) ≤ (ρ.i .i64 1) ∧ GrSt (ρ.z.rl 0) (ρ.i .i64 1).toNat ((ρ.i .i64 1001) + (1 : Int)).toNat ((ρ.l 1004).set (ρ.i .i64 1001).toNat [Go.Value.int .i64 (clampK .i64 (intV (celV (ρ.l 1004) (ρ.i .i64 1001) 0))), Go.Value.int .i64 (clampK .i64 (intV (celV (ρ.l 1004) (ρ.i .i64 1001) 1))), Go.Value.int .i64 (clampK .i64 (intV (celV (ρ.l 1004) (ρ.i .i64 1001) 2))), Go.Value.int .i64 (clampK .i64 (intV (celV (ρ.l 1004) (ρ.i .i64 1001) 3))), Go.Value.int .i64 ((clampK .i64 (intV (celV (ρ.l 1004) (ρ.i .i64 1001) 4))) + (1 : Int))])) ∧ (((ρ.z.rl 0).length - ((ρ.i .i64 1001) + (1 : Int)).toNat : Nat) < (ρ.z.rl 0).length - (ρ.i .i64 1001).toNat) from ?_)
  obtain ⟨hn, hq, h0, h1, h2, h3, hs⟩ := hi
  have hT := kn.rom 0 _ _ rfl
  have g : ∀ j, atI (ρ.l 1004) (ρ.i .i64 1001).toNat j = atI (ρ.z.rl 0) (ρ.i .i64 1001).toNat j := fun j => at_of (gst_row hs (by omega) (by omega)) j
  simp only [at_z (i := ρ.i .i64 1) h0, at_z (i := ρ.i .i64 1001) h2, g] at *
  refine ⟨⟨hn, hq, h0, h1, by omega, by omega, ?_⟩, by omega⟩
  rw [at_s h2]
  first
    | exact gst_keep hT hs (by omega) (by omega) (by assumption)
    | exact gst_set hT hs (by omega) (by omega) (by assumption) (by omega)
theorem vcsrgrOk0 : ∀ v ∈ vwrgrOk 0, VC TTrgrOk invrgrOk msrgrOk 0 (startF 33 cRGrOk.pat (.lit true :: cRGrOk.pre)) v := all_cons vcgrgrOk0_0.1 (all_cons vcrgrOk0_1 (all_cons vcrgrOk0_2 (all_cons vcrgrOk0_3 (all_cons vcrgrOk0_4 (all_cons vcrgrOk0_5 (all_cons vcgrgrOk0_0.2.1 (all_cons vcgrgrOk0_0.2.2 (all_nil))))))))
theorem okrgrOk0 : cfgOk (startF 33 cRGrOk.pat (.lit true :: cRGrOk.pre)) = true := by kernel_rfl
theorem sgrgrOk0 : segL cRGrOk.roms cRGrOk (seg TTrgrOk selrgrOk 3000 tmrgrOk (startF 33 cRGrOk.pat (.lit true :: cRGrOk.pre))) = (true, codesR tmrgrOk (views (seg TTrgrOk selrgrOk 3000 tmrgrOk (startF 33 cRGrOk.pat (.lit true :: cRGrOk.pre)))), vwrgrOk 0) := by kernel_rfl
theorem vcsrgrOk1 : ∀ v ∈ vwrgrOk 1, VC TTrgrOk invrgrOk msrgrOk 1 trgrOk1 v := all_cons vcrgrOk1_0 (all_cons vcrgrOk1_1 (all_cons vcrgrOk1_2 (all_cons vcrgrOk1_3 (all_nil))))
theorem okrgrOk1 : cfgOk trgrOk1 = true := by kernel_rfl
theorem sgrgrOk1 : segL cRGrOk.roms cRGrOk (seg TTrgrOk selrgrOk 3000 tmrgrOk trgrOk1) = (true, codesR tmrgrOk (views (seg TTrgrOk selrgrOk 3000 tmrgrOk trgrOk1)), vwrgrOk 1) := by kernel_rfl
theorem lnrgrOk0 : ∀ ρ, Known TTrgrOk (startF 33 cRGrOk.pat (.lit true :: cRGrOk.pre)) ρ → invrgrOk 0 ρ.lt → Holds ρ (leanOf (Cfg.pc (startF 33 cRGrOk.pat (.lit true :: cRGrOk.pre)))) := by
  intro ρ _ _
  exact (show Holds ρ [] from fun p hp => by cases hp)
theorem lnrgrOk1 : ∀ ρ, Known TTrgrOk trgrOk1 ρ → invrgrOk 1 ρ.lt → Holds ρ (leanOf (Cfg.pc trgrOk1)) := by
  intro ρ kn hi
  refine (show Holds ρ [.le (.lit 0) (.cel .i64 (.var 1004) (.var .i64 1001) 2), .le (.cel .i64 (.var 1004) (.var .i64 1001) 2) (.lit 5), .le (.lit 0) (.cel .i64 (.var 1004) (.var .i64 1001) 4), .le (.cel .i64 (.var 1004) (.var .i64 1001) 4) (.lit 64), .le (.lit 0) (.cel .i64 (.rom 0) (xv 1) 2), .le (.cel .i64 (.rom 0) (xv 1) 2) (.lit 5), .le (ln 0) (.add (.var .i64 1000) (.lit 1)), .le (.var .i64 1000) (.var .i64 1002)] from ?_)
  have hi : (ρ.i .i64 1000) = ((ρ.z.rl 0).length : Int) - 1 ∧ queueL (ρ.z.rl 0) = true ∧ 0 ≤ (ρ.i .i64 1) ∧ (ρ.i .i64 1) < ((ρ.z.rl 0).length : Int) ∧ 0 ≤ (ρ.i .i64 1001) ∧ (ρ.i .i64 1001) ≤ (ρ.i .i64 1) ∧ GrSt (ρ.z.rl 0) (ρ.i .i64 1).toNat (ρ.i .i64 1001).toNat (ρ.l 1004) := hi
  have hF : ρ.z.F = wt.Φ := kn.F
  simp only [h_nil, h_cons, d_le, d_eq, d_not, d_var, d_lit, d_cel, d_leq, d_fn, d_and, d_iff, IE.den, LE.den, AL.den, lenV, true_and, and_true, hF, pi2, pi5, pi6, pi7, pb1, pb2, pb4, pl4, pl6, pl8]
  obtain ⟨hn, hq, h0, h1, h2, h3, hs⟩ := hi
  have hr : Typed _ (ρ.l 1004) ∧ ρ.i .i64 1002 = ((ρ.l 1004).length : Int) := kn.rows 2 _ _ _ _ _ _ rfl
  have hl := gst_len hs (by omega) (by omega)
  obtain ⟨⟨a1, a2⟩, a3, a4⟩ := gst_any hq hs (by omega) (by omega)
  have q := q_at (i := (ρ.i .i64 1).toNat) hq (by omega)
  simp only [xv, IE.den, LE.den, at_z (i := ρ.i .i64 1) h0, at_z (i := ρ.i .i64 1001) h2, and_true]
  simp only [ln, IE.den, LE.den, lenV]
  omega
theorem told_rgrOk : Sx.Told wt.Φ cRGrOk := by
  refine told_of (cs := [cQueueP, cQueueR, cFitsM, cFits03]) (all_cons told_queueP (all_cons told_queueR (all_cons told_fitsM (all_cons told_fits03 (all_nil))))) (sel := selrgrOk) 3000 tmrgrOk invrgrOk msrgrOk vwrgrOk 0 (pc0 := (.lit true :: cRGrOk.pre)) (by kernel_rfl) (by kernel_rfl) (by kernel_rfl) post_rgrOk ?_ ?_ ?_ rfl (fun ρ _ h => h.cons (p := .lit true) (by simp only [BE.den])) (fun _ _ _ _ => trivial) ?_
  · intro k C h
    have := lk_mem h
    simp only [tmrgrOk, List.mem_cons, Prod.mk.injEq, List.not_mem_nil, or_false] at this
    rcases this with ⟨rfl, rfl⟩ | ⟨rfl, rfl⟩
    · exact okrgrOk0
    · exact okrgrOk1
  · intro k C h
    have := lk_mem h
    simp only [tmrgrOk, List.mem_cons, Prod.mk.injEq, List.not_mem_nil, or_false] at this
    rcases this with ⟨rfl, rfl⟩ | ⟨rfl, rfl⟩
    · exact sgrgrOk0
    · exact sgrgrOk1
  · intro k C h
    have := lk_mem h
    simp only [tmrgrOk, List.mem_cons, Prod.mk.injEq, List.not_mem_nil, or_false] at this
    rcases this with ⟨rfl, rfl⟩ | ⟨rfl, rfl⟩
    · exact vcsrgrOk0
    · exact vcsrgrOk1
  · intro k C h
    have := lk_mem h
    simp only [tmrgrOk, List.mem_cons, Prod.mk.injEq, List.not_mem_nil, or_false] at this
    rcases this with ⟨rfl, rfl⟩ | ⟨rfl, rfl⟩
    · exact lnrgrOk0
    · exact lnrgrOk1
noncomputable section
abbrev TTgrNo : Tab := T wt.Φ cGrNo.roms [cQueueP, cQueueR, cFitsM, cFits03]
def tgrNo1 : Cfg := { top := ⟨32, over (opqS 10000 67) [(5, (SV.ptr 0 0)), (7, (SV.ptr 1 0)), (8, (SV.sll 3 4 5 (IE.lit 0) (IE.var .i64 1000) none)), (40, (SV.int .i64 (IE.var .i64 1))), (41, (SV.int .i64 (IE.var .i64 1001)))], ogt (loopTodo (bodyOf (T wt.Φ [] []) 32) 0), [], false, none⟩, rest := [], heap := [(0, .cells [(SV.int .i64 (IE.lit 0)), (SV.int .i64 (IE.lit 0)), (SV.int .i64 (IE.lit 0)), (SV.int .i64 (IE.lit 0)), (SV.int .i64 (IE.lit 0))] 25), (1, .cells [(SV.int .i64 (IE.cel .i64 (LE.rom 0) (IE.var .i64 1) 0)), (SV.int .i64 (IE.cel .i64 (LE.rom 0) (IE.var .i64 1) 1)), (SV.int .i64 (IE.cel .i64 (LE.rom 0) (IE.var .i64 1) 2)), (SV.int .i64 (IE.cel .i64 (LE.rom 0) (IE.var .i64 1) 3)), (SV.int .i64 (IE.cel .i64 (LE.rom 0) (IE.var .i64 1) 4))] 25), (3, .rowl (LE.var 1004) (IE.var .i64 1002) [(CK.int .i64), (CK.int .i64), (CK.int .i64), (CK.int .i64), (CK.int .i64)] 25 4 5)], next := 5, pc := .lit true :: ([] ++ [(BE.not (BE.eq (IE.fn .i64 7 (AL.lst (LE.rom 0) (AL.int .i64 (IE.var .i64 1) AL.nil))) (IE.lit 0))), (BE.le (IE.lit 2) (IE.len (LE.rom 0))), (BE.le (IE.len (LE.rom 0)) (IE.lit 1000)), (BE.fn 4 (AL.lst (LE.rom 0) AL.nil)), (BE.le (IE.lit 0) (IE.var .i64 1)), (BE.not (BE.le (IE.len (LE.rom 0)) (IE.var .i64 1))), (BE.le (IE.lit 0) (IE.var .i64 1000)), (BE.not (BE.le (IE.len (LE.rom 0)) (IE.var .i64 1000))), (BE.le (IE.lit 0) (IE.var .i64 1001)), (BE.not (BE.le (IE.len (LE.rom 0)) (IE.var .i64 1001))), (BE.le (IE.lit 0) (IE.var .i64 1002)), (BE.not (BE.le (IE.len (LE.rom 0)) (IE.var .i64 1002)))] ++ (.and (.lit true) (.lit true)) :: [.le (.lit 0) (.cel .i64 (.var 1004) (.var .i64 1001) 2), .le (.cel .i64 (.var 1004) (.var .i64 1001) 2) (.lit 5), .le (.lit 0) (.cel .i64 (.var 1004) (.var .i64 1001) 4), .le (.cel .i64 (.var 1004) (.var .i64 1001) 4) (.lit 64), .le (.lit 0) (.cel .i64 (.rom 0) (xv 1) 2), .le (.cel .i64 (.rom 0) (xv 1) 2) (.lit 5), .le (ln 0) (.add (.var .i64 1000) (.lit 1)), .le (.var .i64 1000) (.var .i64 1002)]) }
def tmgrNo : List (Nat × Cfg) := [(0, startF 32 cGrNo.pat (.lit true :: cGrNo.pre)), (1, tgrNo1)]
def selgrNo : Sel := [(32, 1, 0, 1)]
def pcgrNo0_0 : List BE := [(BE.lit true), (BE.le (IE.len (LE.rom 0)) (IE.lit 1000)), (BE.le (IE.lit 2) (IE.len (LE.rom 0))), (BE.not (BE.eq (IE.fn .i64 7 (AL.lst (LE.rom 0) (AL.int .i64 (IE.var .i64 1) AL.nil))) (IE.lit 0)))]
def pcgrNo0_1 : List BE := ((BE.fn 4 (AL.lst (LE.rom 0) AL.nil)) :: pcgrNo0_0)
def pcgrNo0_2 : List BE := ((BE.le (IE.lit 0) (IE.var .i64 1)) :: pcgrNo0_1)
def pcgrNo0_3 : List BE := ((BE.not (BE.le (IE.len (LE.rom 0)) (IE.var .i64 1))) :: pcgrNo0_2)
def wgrNo0_0 : VW := (VW.done ((BE.le (IE.len (LE.rom 0)) (IE.var .i64 1)) :: pcgrNo0_2) (some [(G.i (IE.fn .i64 7 (AL.lst (LE.rom 0) (AL.int .i64 (IE.var .i64 1) AL.nil))) (IE.lit 4))]))
def wgrNo0_1 : VW := (VW.cut 1 ((BE.eq (IE.rcap 0) (IE.add (IE.var .i64 1) (IE.lit 1))) :: pcgrNo0_3) (Sx.Sub.mk [(.i64, (1002, (IE.sub (IE.add (IE.add (IE.lit 0) (IE.var .i64 1)) (IE.sub (IE.len (LE.rom 0)) (IE.add (IE.var .i64 1) (IE.lit 1)))) (IE.lit 0)))), (.i64, (1001, (IE.lit 0))), (.i64, (1000, (IE.add (IE.var .i64 1) (IE.sub (IE.len (LE.rom 0)) (IE.add (IE.var .i64 1) (IE.lit 1))))))] [] [(1004, (LE.cat (LE.cat (LE.take (LE.cat (LE.cat (LE.take (LE.rep (AL.int .i64 (IE.lit 0) (AL.int .i64 (IE.lit 0) (AL.int .i64 (IE.lit 0) (AL.int .i64 (IE.lit 0) (AL.int .i64 (IE.lit 0) AL.nil))))) (IE.sub (IE.add (IE.add (IE.lit 0) (IE.var .i64 1)) (IE.sub (IE.len (LE.rom 0)) (IE.add (IE.var .i64 1) (IE.lit 1)))) (IE.lit 0))) (IE.lit 0)) (LE.take (LE.rom 0) (IE.var .i64 1))) (LE.drop (LE.rep (AL.int .i64 (IE.lit 0) (AL.int .i64 (IE.lit 0) (AL.int .i64 (IE.lit 0) (AL.int .i64 (IE.lit 0) (AL.int .i64 (IE.lit 0) AL.nil))))) (IE.sub (IE.add (IE.add (IE.lit 0) (IE.var .i64 1)) (IE.sub (IE.len (LE.rom 0)) (IE.add (IE.var .i64 1) (IE.lit 1)))) (IE.lit 0))) (IE.var .i64 1))) (IE.var .i64 1)) (LE.take (LE.rom 0) (IE.sub (IE.len (LE.rom 0)) (IE.add (IE.var .i64 1) (IE.lit 1))))) (LE.drop (LE.cat (LE.cat (LE.take (LE.rep (AL.int .i64 (IE.lit 0) (AL.int .i64 (IE.lit 0) (AL.int .i64 (IE.lit 0) (AL.int .i64 (IE.lit 0) (AL.int .i64 (IE.lit 0) AL.nil))))) (IE.sub (IE.add (IE.add (IE.lit 0) (IE.var .i64 1)) (IE.sub (IE.len (LE.rom 0)) (IE.add (IE.var .i64 1) (IE.lit 1)))) (IE.lit 0))) (IE.lit 0)) (LE.take (LE.rom 0) (IE.var .i64 1))) (LE.drop (LE.rep (AL.int .i64 (IE.lit 0) (AL.int .i64 (IE.lit 0) (AL.int .i64 (IE.lit 0) (AL.int .i64 (IE.lit 0) (AL.int .i64 (IE.lit 0) AL.nil))))) (IE.sub (IE.add (IE.add (IE.lit 0) (IE.var .i64 1)) (IE.sub (IE.len (LE.rom 0)) (IE.add (IE.var .i64 1) (IE.lit 1)))) (IE.lit 0))) (IE.var .i64 1))) (IE.add (IE.var .i64 1) (IE.sub (IE.len (LE.rom 0)) (IE.add (IE.var .i64 1) (IE.lit 1)))))))] [] [] []))
def wgrNo0_2 : VW := (VW.cut 1 ((BE.not (BE.eq (IE.rcap 0) (IE.add (IE.var .i64 1) (IE.lit 1)))) :: pcgrNo0_3) (Sx.Sub.mk [(.i64, (1002, (IE.sub (IE.add (IE.add (IE.lit 0) (IE.var .i64 1)) (IE.sub (IE.len (LE.rom 0)) (IE.add (IE.var .i64 1) (IE.lit 1)))) (IE.lit 0)))), (.i64, (1001, (IE.lit 0))), (.i64, (1000, (IE.add (IE.var .i64 1) (IE.sub (IE.len (LE.rom 0)) (IE.add (IE.var .i64 1) (IE.lit 1))))))] [] [(1004, (LE.cat (LE.cat (LE.take (LE.cat (LE.cat (LE.take (LE.rep (AL.int .i64 (IE.lit 0) (AL.int .i64 (IE.lit 0) (AL.int .i64 (IE.lit 0) (AL.int .i64 (IE.lit 0) (AL.int .i64 (IE.lit 0) AL.nil))))) (IE.sub (IE.add (IE.add (IE.lit 0) (IE.var .i64 1)) (IE.sub (IE.len (LE.rom 0)) (IE.add (IE.var .i64 1) (IE.lit 1)))) (IE.lit 0))) (IE.lit 0)) (LE.take (LE.rom 0) (IE.var .i64 1))) (LE.drop (LE.rep (AL.int .i64 (IE.lit 0) (AL.int .i64 (IE.lit 0) (AL.int .i64 (IE.lit 0) (AL.int .i64 (IE.lit 0) (AL.int .i64 (IE.lit 0) AL.nil))))) (IE.sub (IE.add (IE.add (IE.lit 0) (IE.var .i64 1)) (IE.sub (IE.len (LE.rom 0)) (IE.add (IE.var .i64 1) (IE.lit 1)))) (IE.lit 0))) (IE.var .i64 1))) (IE.var .i64 1)) (LE.drop (LE.rom 0) (IE.add (IE.var .i64 1) (IE.lit 1)))) (LE.drop (LE.cat (LE.cat (LE.take (LE.rep (AL.int .i64 (IE.lit 0) (AL.int .i64 (IE.lit 0) (AL.int .i64 (IE.lit 0) (AL.int .i64 (IE.lit 0) (AL.int .i64 (IE.lit 0) AL.nil))))) (IE.sub (IE.add (IE.add (IE.lit 0) (IE.var .i64 1)) (IE.sub (IE.len (LE.rom 0)) (IE.add (IE.var .i64 1) (IE.lit 1)))) (IE.lit 0))) (IE.lit 0)) (LE.take (LE.rom 0) (IE.var .i64 1))) (LE.drop (LE.rep (AL.int .i64 (IE.lit 0) (AL.int .i64 (IE.lit 0) (AL.int .i64 (IE.lit 0) (AL.int .i64 (IE.lit 0) (AL.int .i64 (IE.lit 0) AL.nil))))) (IE.sub (IE.add (IE.add (IE.lit 0) (IE.var .i64 1)) (IE.sub (IE.len (LE.rom 0)) (IE.add (IE.var .i64 1) (IE.lit 1)))) (IE.lit 0))) (IE.var .i64 1))) (IE.add (IE.var .i64 1) (IE.sub (IE.len (LE.rom 0)) (IE.add (IE.var .i64 1) (IE.lit 1)))))))] [] [] []))
def wgrNo0_3 : VW := (VW.done ((BE.not (BE.le (IE.lit 0) (IE.var .i64 1))) :: pcgrNo0_1) (some [(G.i (IE.fn .i64 7 (AL.lst (LE.rom 0) (AL.int .i64 (IE.var .i64 1) AL.nil))) (IE.lit 4))]))
def wgrNo0_4 : VW := (VW.done ((BE.not (BE.fn 4 (AL.lst (LE.rom 0) AL.nil))) :: pcgrNo0_0) (some [(G.i (IE.fn .i64 7 (AL.lst (LE.rom 0) (AL.int .i64 (IE.var .i64 1) AL.nil))) (IE.lit 2))]))
def vwgrNo0 : List VW := [wgrNo0_0, wgrNo0_1, wgrNo0_2, wgrNo0_3, wgrNo0_4]
def pcgrNo1_0 : List BE := [(BE.lit true), (BE.not (BE.eq (IE.fn .i64 7 (AL.lst (LE.rom 0) (AL.int .i64 (IE.var .i64 1) AL.nil))) (IE.lit 0))), (BE.le (IE.lit 2) (IE.len (LE.rom 0))), (BE.le (IE.len (LE.rom 0)) (IE.lit 1000)), (BE.fn 4 (AL.lst (LE.rom 0) AL.nil)), (BE.le (IE.lit 0) (IE.var .i64 1)), (BE.not (BE.le (IE.len (LE.rom 0)) (IE.var .i64 1))), (BE.le (IE.lit 0) (IE.var .i64 1000)), (BE.not (BE.le (IE.len (LE.rom 0)) (IE.var .i64 1000))), (BE.le (IE.lit 0) (IE.var .i64 1001)), (BE.not (BE.le (IE.len (LE.rom 0)) (IE.var .i64 1001))), (BE.le (IE.lit 0) (IE.var .i64 1002)), (BE.not (BE.le (IE.len (LE.rom 0)) (IE.var .i64 1002))), (BE.and (BE.lit true) (BE.lit true)), (BE.le (IE.lit 0) (IE.cel .i64 (LE.var 1004) (IE.var .i64 1001) 2)), (BE.le (IE.cel .i64 (LE.var 1004) (IE.var .i64 1001) 2) (IE.lit 5)), (BE.le (IE.lit 0) (IE.cel .i64 (LE.var 1004) (IE.var .i64 1001) 4)), (BE.le (IE.cel .i64 (LE.var 1004) (IE.var .i64 1001) 4) (IE.lit 64)), (BE.le (IE.lit 0) (IE.cel .i64 (LE.rom 0) (IE.var .i64 1) 2)), (BE.le (IE.cel .i64 (LE.rom 0) (IE.var .i64 1) 2) (IE.lit 5)), (BE.le (IE.len (LE.rom 0)) (IE.add (IE.var .i64 1000) (IE.lit 1))), (BE.le (IE.var .i64 1000) (IE.var .i64 1002))]
def pcgrNo1_1 : List BE := ((BE.not (BE.le (IE.var .i64 1) (IE.var .i64 1001))) :: pcgrNo1_0)
def pcgrNo1_2 : List BE := ((BE.not (BE.fn 1 (AL.int .i64 (IE.cel .i64 (LE.var 1004) (IE.var .i64 1001) 2) (AL.int .i64 (IE.cel .i64 (LE.rom 0) (IE.var .i64 1) 2) AL.nil)))) :: pcgrNo1_1)
def wgrNo1_0 : VW := (VW.done ((BE.le (IE.var .i64 1) (IE.var .i64 1001)) :: pcgrNo1_0) (some [(G.b (BE.lit true) (BE.lit false))]))
def wgrNo1_1 : VW := (VW.cut 1 ((BE.fn 1 (AL.int .i64 (IE.cel .i64 (LE.var 1004) (IE.var .i64 1001) 2) (AL.int .i64 (IE.cel .i64 (LE.rom 0) (IE.var .i64 1) 2) AL.nil))) :: pcgrNo1_1) (Sx.Sub.mk [(.i64, (1002, (IE.var .i64 1002))), (.i64, (1001, (IE.add (IE.var .i64 1001) (IE.lit 1)))), (.i64, (1000, (IE.var .i64 1000)))] [] [(1004, (LE.var 1004))] [] [] []))
def wgrNo1_2 : VW := (VW.cut 1 ((BE.le (IE.add (IE.cel .i64 (LE.var 1004) (IE.var .i64 1001) 4) (IE.lit 1)) (IE.lit 64)) :: pcgrNo1_2) (Sx.Sub.mk [(.i64, (1002, (IE.var .i64 1002))), (.i64, (1001, (IE.add (IE.var .i64 1001) (IE.lit 1)))), (.i64, (1000, (IE.var .i64 1000)))] [] [(1004, (LE.set (LE.var 1004) (IE.var .i64 1001) (AL.int .i64 (IE.cel .i64 (LE.var 1004) (IE.var .i64 1001) 0) (AL.int .i64 (IE.cel .i64 (LE.var 1004) (IE.var .i64 1001) 1) (AL.int .i64 (IE.cel .i64 (LE.var 1004) (IE.var .i64 1001) 2) (AL.int .i64 (IE.cel .i64 (LE.var 1004) (IE.var .i64 1001) 3) (AL.int .i64 (IE.add (IE.cel .i64 (LE.var 1004) (IE.var .i64 1001) 4) (IE.lit 1)) AL.nil)))))))] [] [] []))
def wgrNo1_3 : VW := (VW.cut 1 ((BE.not (BE.le (IE.add (IE.cel .i64 (LE.var 1004) (IE.var .i64 1001) 4) (IE.lit 1)) (IE.lit 64))) :: pcgrNo1_2) (Sx.Sub.mk [(.i64, (1002, (IE.var .i64 1002))), (.i64, (1001, (IE.add (IE.var .i64 1001) (IE.lit 1)))), (.i64, (1000, (IE.var .i64 1000)))] [] [(1004, (LE.set (LE.var 1004) (IE.var .i64 1001) (AL.int .i64 (IE.cel .i64 (LE.var 1004) (IE.var .i64 1001) 0) (AL.int .i64 (IE.cel .i64 (LE.var 1004) (IE.var .i64 1001) 1) (AL.int .i64 (IE.cel .i64 (LE.var 1004) (IE.var .i64 1001) 2) (AL.int .i64 (IE.cel .i64 (LE.var 1004) (IE.var .i64 1001) 3) (AL.int .i64 (IE.lit 64) AL.nil)))))))] [] [] []))
def vwgrNo1 : List VW := [wgrNo1_0, wgrNo1_1, wgrNo1_2, wgrNo1_3]
def vwgrNo : Nat → List VW
  | 0 => vwgrNo0
  | 1 => vwgrNo1
  | _ => []
end
def invgrNo : Nat → Lt → Prop
  | 1, l => False
  | _, _ => True
def msgrNo : Nat → Lt → Nat
  | 0, l => 1
  | 1, l => 0
  | _, _ => 0
theorem vcgrNo0_0 : VC TTgrNo invgrNo msgrNo 0 (startF 32 cGrNo.pat (.lit true :: cGrNo.pre)) wgrNo0_0 := by
  intro ρ kn hi hp
  have hF : ρ.z.F = wt.Φ := kn.F
  simp only [h_nil, h_cons, d_le, d_eq, d_not, d_var, d_lit, d_cel, d_leq, d_fn, d_and, d_iff, IE.den, LE.den, AL.den, lenV, true_and, and_true, pcgrNo0_2, pcgrNo0_1, pcgrNo0_0, hF, pi2, pi5, pi6, pi7, pb1, pb2, pb4, pl4, pl6, pl8] at hp
  obtain ⟨p1, p2, p3, p4, p5, p6⟩ := hp
  refine all_cons (show (clampK .i64 (ρ.z.F.i 7 [.lst (ρ.z.rl 0), .int .i64 (ρ.i .i64 1)])) = (4 : Int) from ?_) (all_nil)
  all_goals try simp only [hF, pi2, pi5, pi6, pi7, pb1, pb2, pb4, pl4, pl6, pl8]
  all_goals
    simp only [grE_in] at *
    first
      | (have q := gr2 (f := ρ.i .i64 1) (by assumption : ¬ queueL (ρ.z.rl 0) = true); omega)
      | (have q := gr4 (l := ρ.z.rl 0) (f := ρ.i .i64 1) (by assumption) (by omega); omega)
      | (have q := gr0 (l := ρ.z.rl 0) (f := ρ.i .i64 1) (by assumption) (by omega) (by omega); omega)
theorem vcgrNo0_1 : VC TTgrNo invgrNo msgrNo 0 (startF 32 cGrNo.pat (.lit true :: cGrNo.pre)) wgrNo0_1 := by
  intro ρ kn hi hp
  have hF : ρ.z.F = wt.Φ := kn.F
  simp only [h_nil, h_cons, d_le, d_eq, d_not, d_var, d_lit, d_cel, d_leq, d_fn, d_and, d_iff, IE.den, LE.den, AL.den, lenV, true_and, and_true, pcgrNo0_3, pcgrNo0_2, pcgrNo0_1, pcgrNo0_0, hF, pi2, pi5, pi6, pi7, pb1, pb2, pb4, pl4, pl6, pl8] at hp
  obtain ⟨p1, p2, p3, p4, p5, p6, p7⟩ := hp
  refine (show (False) ∧ ((0 : Nat) < 1) from ?_)
  simp only [grE_in] at *
  exact absurd (gr0 (l := ρ.z.rl 0) (f := ρ.i .i64 1) (by assumption) (by omega) (by omega)).1 (by assumption)
theorem vcgrNo0_2 : VC TTgrNo invgrNo msgrNo 0 (startF 32 cGrNo.pat (.lit true :: cGrNo.pre)) wgrNo0_2 := by
  intro ρ kn hi hp
  have hF : ρ.z.F = wt.Φ := kn.F
  simp only [h_nil, h_cons, d_le, d_eq, d_not, d_var, d_lit, d_cel, d_leq, d_fn, d_and, d_iff, IE.den, LE.den, AL.den, lenV, true_and, and_true, pcgrNo0_3, pcgrNo0_2, pcgrNo0_1, pcgrNo0_0, hF, pi2, pi5, pi6, pi7, pb1, pb2, pb4, pl4, pl6, pl8] at hp
  obtain ⟨p1, p2, p3, p4, p5, p6, p7⟩ := hp
  refine (show (False) ∧ ((0 : Nat) < 1) from ?_)
  simp only [grE_in] at *
  exact absurd (gr0 (l := ρ.z.rl 0) (f := ρ.i .i64 1) (by assumption) (by omega) (by omega)).1 (by assumption)
theorem vcgrNo0_3 : VC TTgrNo invgrNo msgrNo 0 (startF 32 cGrNo.pat (.lit true :: cGrNo.pre)) wgrNo0_3 := by
  intro ρ kn hi hp
  have hF : ρ.z.F = wt.Φ := kn.F
  simp only [h_nil, h_cons, d_le, d_eq, d_not, d_var, d_lit, d_cel, d_leq, d_fn, d_and, d_iff, IE.den, LE.den, AL.den, lenV, true_and, and_true, pcgrNo0_1, pcgrNo0_0, hF, pi2, pi5, pi6, pi7, pb1, pb2, pb4, pl4, pl6, pl8] at hp
  obtain ⟨p1, p2, p3, p4, p5⟩ := hp
  refine all_cons (show (clampK .i64 (ρ.z.F.i 7 [.lst (ρ.z.rl 0), .int .i64 (ρ.i .i64 1)])) = (4 : Int) from ?_) (all_nil)
  all_goals try simp only [hF, pi2, pi5, pi6, pi7, pb1, pb2, pb4, pl4, pl6, pl8]
  all_goals
    simp only [grE_in] at *
    first
      | (have q := gr2 (f := ρ.i .i64 1) (by assumption : ¬ queueL (ρ.z.rl 0) = true); omega)
      | (have q := gr4 (l := ρ.z.rl 0) (f := ρ.i .i64 1) (by assumption) (by omega); omega)
      | (have q := gr0 (l := ρ.z.rl 0) (f := ρ.i .i64 1) (by assumption) (by omega) (by omega); omega)
theorem vcgrNo0_4 : VC TTgrNo invgrNo msgrNo 0 (startF 32 cGrNo.pat (.lit true :: cGrNo.pre)) wgrNo0_4 := by
  intro ρ kn hi hp
  have hF : ρ.z.F = wt.Φ := kn.F
  simp only [h_nil, h_cons, d_le, d_eq, d_not, d_var, d_lit, d_cel, d_leq, d_fn, d_and, d_iff, IE.den, LE.den, AL.den, lenV, true_and, and_true, pcgrNo0_0, hF, pi2, pi5, pi6, pi7, pb1, pb2, pb4, pl4, pl6, pl8] at hp
  obtain ⟨p1, p2, p3, p4⟩ := hp
  refine all_cons (show (clampK .i64 (ρ.z.F.i 7 [.lst (ρ.z.rl 0), .int .i64 (ρ.i .i64 1)])) = (2 : Int) from ?_) (all_nil)
  all_goals try simp only [hF, pi2, pi5, pi6, pi7, pb1, pb2, pb4, pl4, pl6, pl8]
  all_goals
    simp only [grE_in] at *
    first
      | (have q := gr2 (f := ρ.i .i64 1) (by assumption : ¬ queueL (ρ.z.rl 0) = true); omega)
      | (have q := gr4 (l := ρ.z.rl 0) (f := ρ.i .i64 1) (by assumption) (by omega); omega)
      | (have q := gr0 (l := ρ.z.rl 0) (f := ρ.i .i64 1) (by assumption) (by omega) (by omega); omega)
def ivgrNo1 (ρ : Rho) : Prop := False
theorem vcgrNo1_0 : VC TTgrNo invgrNo msgrNo 1 tgrNo1 wgrNo1_0 := by
  intro ρ kn hi hp
  have hi : ivgrNo1 ρ := hi
  unfold ivgrNo1 at hi
  have hF : ρ.z.F = wt.Φ := kn.F
  simp only [h_nil, h_cons, d_le, d_eq, d_not, d_var, d_lit, d_cel, d_leq, d_fn, d_and, d_iff, IE.den, LE.den, AL.den, lenV, true_and, and_true, pcgrNo1_0, hF, pi2, pi5, pi6, pi7, pb1, pb2, pb4, pl4, pl6, pl8] at hp
  obtain ⟨p1, p2, p3, p4, p5, p6, p7, p8, p9, p10, p11, p12, p13, p14, p15, p16, p17, p18, p19, p20, p21⟩ := hp
  exfalso
  exact hi.elim
theorem vcgrNo1_1 : VC TTgrNo invgrNo msgrNo 1 tgrNo1 wgrNo1_1 := by
  intro ρ kn hi hp
  have hi : ivgrNo1 ρ := hi
  unfold ivgrNo1 at hi
  have hF : ρ.z.F = wt.Φ := kn.F
  simp only [h_nil, h_cons, d_le, d_eq, d_not, d_var, d_lit, d_cel, d_leq, d_fn, d_and, d_iff, IE.den, LE.den, AL.den, lenV, true_and, and_true, pcgrNo1_1, pcgrNo1_0, hF, pi2, pi5, pi6, pi7, pb1, pb2, pb4, pl4, pl6, pl8] at hp
  obtain ⟨p1, p2, p3, p4, p5, p6, p7, p8, p9, p10, p11, p12, p13, p14, p15, p16, p17, p18, p19, p20, p21, p22⟩ := hp
  refine (show (False) ∧ ((0 : Nat) < 0) from ?_)
  exact hi.elim
theorem vcgrNo1_2 : VC TTgrNo invgrNo msgrNo 1 tgrNo1 wgrNo1_2 := by
  intro ρ kn hi hp
  have hi : ivgrNo1 ρ := hi
  unfold ivgrNo1 at hi
  have hF : ρ.z.F = wt.Φ := kn.F
  simp only [h_nil, h_cons, d_le, d_eq, d_not, d_var, d_lit, d_cel, d_leq, d_fn, d_and, d_iff, IE.den, LE.den, AL.den, lenV, true_and, and_true, pcgrNo1_2, pcgrNo1_1, pcgrNo1_0, hF, pi2, pi5, pi6, pi7, pb1, pb2, pb4, pl4, pl6, pl8] at hp
  obtain ⟨p1, p2, p3, p4, p5, p6, p7, p8, p9, p10, p11, p12, p13, p14, p15, p16, p17, p18, p19, p20, p21, p22, p23⟩ := hp
  refine (show (False) ∧ ((0 : Nat) < 0) from ?_)
  exact hi.elim
theorem vcgrNo1_3 : VC TTgrNo invgrNo msgrNo 1 tgrNo1 wgrNo1_3 := by
  intro ρ kn hi hp
  have hi : ivgrNo1 ρ := hi
  unfold ivgrNo1 at hi
  have hF : ρ.z.F = wt.Φ := kn.F
  simp only [h_nil, h_cons, d_le, d_eq, d_not, d_var, d_lit, d_cel, d_leq, d_fn, d_and, d_iff, IE.den, LE.den, AL.den, lenV, true_and, and_true, pcgrNo1_2, pcgrNo1_1, pcgrNo1_0, hF, pi2, pi5, pi6, pi7, pb1, pb2, pb4, pl4, pl6, pl8] at hp
  obtain ⟨p1, p2, p3, p4, p5, p6, p7, p8, p9, p10, p11, p12, p13, p14, p15, p16, p17, p18, p19, p20, p21, p22, p23⟩ := hp
  refine (show (False) ∧ ((0 : Nat) < 0) from ?_)
  exact hi.elim
theorem vcsgrNo0 : ∀ v ∈ vwgrNo 0, VC TTgrNo invgrNo msgrNo 0 (startF 32 cGrNo.pat (.lit true :: cGrNo.pre)) v := all_cons vcgrNo0_0 (all_cons vcgrNo0_1 (all_cons vcgrNo0_2 (all_cons vcgrNo0_3 (all_cons vcgrNo0_4 (all_nil)))))
theorem okgrNo0 : cfgOk (startF 32 cGrNo.pat (.lit true :: cGrNo.pre)) = true := by kernel_rfl
theorem sggrNo0 : segL cGrNo.roms cGrNo (seg TTgrNo selgrNo 3000 tmgrNo (startF 32 cGrNo.pat (.lit true :: cGrNo.pre))) = (true, codesR tmgrNo (views (seg TTgrNo selgrNo 3000 tmgrNo (startF 32 cGrNo.pat (.lit true :: cGrNo.pre)))), vwgrNo 0) := by kernel_rfl
theorem vcsgrNo1 : ∀ v ∈ vwgrNo 1, VC TTgrNo invgrNo msgrNo 1 tgrNo1 v := all_cons vcgrNo1_0 (all_cons vcgrNo1_1 (all_cons vcgrNo1_2 (all_cons vcgrNo1_3 (all_nil))))
theorem okgrNo1 : cfgOk tgrNo1 = true := by kernel_rfl
theorem sggrNo1 : segL cGrNo.roms cGrNo (seg TTgrNo selgrNo 3000 tmgrNo tgrNo1) = (true, codesR tmgrNo (views (seg TTgrNo selgrNo 3000 tmgrNo tgrNo1)), vwgrNo 1) := by kernel_rfl
theorem lngrNo0 : ∀ ρ, Known TTgrNo (startF 32 cGrNo.pat (.lit true :: cGrNo.pre)) ρ → invgrNo 0 ρ.lt → Holds ρ (leanOf (Cfg.pc (startF 32 cGrNo.pat (.lit true :: cGrNo.pre)))) := by
  intro ρ _ _
  exact (show Holds ρ [] from fun p hp => by cases hp)
theorem lngrNo1 : ∀ ρ, Known TTgrNo tgrNo1 ρ → invgrNo 1 ρ.lt → Holds ρ (leanOf (Cfg.pc tgrNo1)) := by
  intro ρ kn hi
  refine (show Holds ρ [.le (.lit 0) (.cel .i64 (.var 1004) (.var .i64 1001) 2), .le (.cel .i64 (.var 1004) (.var .i64 1001) 2) (.lit 5), .le (.lit 0) (.cel .i64 (.var 1004) (.var .i64 1001) 4), .le (.cel .i64 (.var 1004) (.var .i64 1001) 4) (.lit 64), .le (.lit 0) (.cel .i64 (.rom 0) (xv 1) 2), .le (.cel .i64 (.rom 0) (xv 1) 2) (.lit 5), .le (ln 0) (.add (.var .i64 1000) (.lit 1)), .le (.var .i64 1000) (.var .i64 1002)] from ?_)
  have hi : False := hi
  have hF : ρ.z.F = wt.Φ := kn.F
  simp only [h_nil, h_cons, d_le, d_eq, d_not, d_var, d_lit, d_cel, d_leq, d_fn, d_and, d_iff, IE.den, LE.den, AL.den, lenV, true_and, and_true, hF, pi2, pi5, pi6, pi7, pb1, pb2, pb4, pl4, pl6, pl8]
  exact hi.elim
theorem told_grNo : Sx.Told wt.Φ cGrNo := by
  refine told_of (cs := [cQueueP, cQueueR, cFitsM, cFits03]) (all_cons told_queueP (all_cons told_queueR (all_cons told_fitsM (all_cons told_fits03 (all_nil))))) (sel := selgrNo) 3000 tmgrNo invgrNo msgrNo vwgrNo 0 (pc0 := (.lit true :: cGrNo.pre)) (by kernel_rfl) (by kernel_rfl) (by kernel_rfl) (post_nil rfl) ?_ ?_ ?_ rfl (fun ρ _ h => h.cons (p := .lit true) (by simp only [BE.den])) (fun _ _ _ _ => trivial) ?_
  · intro k C h
    have := lk_mem h
    simp only [tmgrNo, List.mem_cons, Prod.mk.injEq, List.not_mem_nil, or_false] at this
    rcases this with ⟨rfl, rfl⟩ | ⟨rfl, rfl⟩
    · exact okgrNo0
    · exact okgrNo1
  · intro k C h
    have := lk_mem h
    simp only [tmgrNo, List.mem_cons, Prod.mk.injEq, List.not_mem_nil, or_false] at this
    rcases this with ⟨rfl, rfl⟩ | ⟨rfl, rfl⟩
    · exact sggrNo0
    · exact sggrNo1
  · intro k C h
    have := lk_mem h
    simp only [tmgrNo, List.mem_cons, Prod.mk.injEq, List.not_mem_nil, or_false] at this
    rcases this with ⟨rfl, rfl⟩ | ⟨rfl, rfl⟩
    · exact vcsgrNo0
    · exact vcsgrNo1
  · intro k C h
    have := lk_mem h
    simp only [tmgrNo, List.mem_cons, Prod.mk.injEq, List.not_mem_nil, or_false] at this
    rcases this with ⟨rfl, rfl⟩ | ⟨rfl, rfl⟩
    · exact lngrNo0
    · exact lngrNo1
noncomputable section
abbrev TTrgrNo : Tab := T wt.Φ cRGrNo.roms [cQueueP, cQueueR, cFitsM, cFits03]
def trgrNo1 : Cfg := { top := ⟨33, over (opqS 10000 58) [(0, (SV.rom 0 (IE.lit 0) (IE.len (LE.rom 0)) none)), (1, (SV.int .i64 (IE.var .i64 1))), (5, (SV.ptr 0 0)), (7, (SV.sll 2 3 5 (IE.lit 0) (IE.var .i64 1000) none)), (8, (SV.int .i64 (IE.var .i64 1001)))], ogt (loopTodo (bodyOf (T wt.Φ [] []) 33) 0), [], false, none⟩, rest := [], heap := [(0, .cells [(SV.int .i64 (IE.lit 0)), (SV.int .i64 (IE.lit 0)), (SV.int .i64 (IE.lit 0)), (SV.int .i64 (IE.lit 0)), (SV.int .i64 (IE.lit 0))] 25), (2, .rowl (LE.var 1004) (IE.var .i64 1002) [(CK.int .i64), (CK.int .i64), (CK.int .i64), (CK.int .i64), (CK.int .i64)] 25 3 5)], next := 4, pc := .lit true :: ([] ++ [(BE.not (BE.eq (IE.fn .i64 7 (AL.lst (LE.rom 0) (AL.int .i64 (IE.var .i64 1) AL.nil))) (IE.lit 0))), (BE.le (IE.lit 2) (IE.len (LE.rom 0))), (BE.le (IE.len (LE.rom 0)) (IE.lit 1000)), (BE.fn 4 (AL.lst (LE.rom 0) AL.nil)), (BE.le (IE.lit 0) (IE.var .i64 1)), (BE.not (BE.le (IE.len (LE.rom 0)) (IE.var .i64 1))), (BE.le (IE.lit 0) (IE.var .i64 1000)), (BE.not (BE.le (IE.len (LE.rom 0)) (IE.var .i64 1000))), (BE.le (IE.lit 0) (IE.var .i64 1001)), (BE.not (BE.le (IE.len (LE.rom 0)) (IE.var .i64 1001))), (BE.le (IE.lit 0) (IE.var .i64 1002)), (BE.not (BE.le (IE.len (LE.rom 0)) (IE.var .i64 1002)))] ++ (.and (.lit true) (.lit true)) :: [.le (.lit 0) (.cel .i64 (.var 1004) (.var .i64 1001) 2), .le (.cel .i64 (.var 1004) (.var .i64 1001) 2) (.lit 5), .le (.lit 0) (.cel .i64 (.var 1004) (.var .i64 1001) 4), .le (.cel .i64 (.var 1004) (.var .i64 1001) 4) (.lit 64), .le (.lit 0) (.cel .i64 (.rom 0) (xv 1) 2), .le (.cel .i64 (.rom 0) (xv 1) 2) (.lit 5), .le (ln 0) (.add (.var .i64 1000) (.lit 1)), .le (.var .i64 1000) (.var .i64 1002)]) }
def tmrgrNo : List (Nat × Cfg) := [(0, startF 33 cRGrNo.pat (.lit true :: cRGrNo.pre)), (1, trgrNo1)]
def selrgrNo : Sel := [(33, 1, 0, 1)]
def pcrgrNo0_0 : List BE := [(BE.lit true), (BE.le (IE.len (LE.rom 0)) (IE.lit 1000)), (BE.le (IE.lit 2) (IE.len (LE.rom 0))), (BE.not (BE.eq (IE.fn .i64 7 (AL.lst (LE.rom 0) (AL.int .i64 (IE.var .i64 1) AL.nil))) (IE.lit 0)))]
def pcrgrNo0_1 : List BE := ((BE.fn 4 (AL.lst (LE.rom 0) AL.nil)) :: pcrgrNo0_0)
def pcrgrNo0_2 : List BE := ((BE.le (IE.lit 0) (IE.var .i64 1)) :: pcrgrNo0_1)
def pcrgrNo0_3 : List BE := ((BE.not (BE.le (IE.len (LE.rom 0)) (IE.var .i64 1))) :: pcrgrNo0_2)
def pcrgrNo0_4 : List BE := ((BE.not (BE.le (IE.var .i64 1) (IE.lit 0))) :: pcrgrNo0_3)
def pcrgrNo0_5 : List BE := ((BE.eq (IE.rcap 0) (IE.add (IE.var .i64 1) (IE.lit 1))) :: pcrgrNo0_4)
def pcrgrNo0_6 : List BE := ((BE.not (BE.eq (IE.rcap 0) (IE.add (IE.var .i64 1) (IE.lit 1)))) :: pcrgrNo0_4)
def wrgrNo0_0 : VW := (VW.done ((BE.le (IE.len (LE.rom 0)) (IE.var .i64 1)) :: pcrgrNo0_2) (some [(G.i (IE.fn .i64 7 (AL.lst (LE.rom 0) (AL.int .i64 (IE.var .i64 1) AL.nil))) (IE.lit 4))]))
def wrgrNo0_1 : VW := (VW.cut 1 ((BE.le (IE.var .i64 1) (IE.lit 0)) :: pcrgrNo0_3) (Sx.Sub.mk [(.i64, (1002, (IE.sub (IE.len (LE.rom 0)) (IE.add (IE.var .i64 1) (IE.lit 1))))), (.i64, (1001, (IE.lit 0))), (.i64, (1000, (IE.sub (IE.len (LE.rom 0)) (IE.add (IE.var .i64 1) (IE.lit 1)))))] [] [(1004, (LE.drop (LE.rom 0) (IE.add (IE.var .i64 1) (IE.lit 1))))] [] [] []))
def wrgrNo0_2 : VW := (VW.cut 1 ((BE.le (IE.add (IE.var .i64 1) (IE.sub (IE.len (LE.rom 0)) (IE.add (IE.var .i64 1) (IE.lit 1)))) (IE.var .i64 1)) :: pcrgrNo0_5) (Sx.Sub.mk [(.i64, (1002, (IE.var .i64 1))), (.i64, (1001, (IE.lit 0))), (.i64, (1000, (IE.add (IE.var .i64 1) (IE.sub (IE.len (LE.rom 0)) (IE.add (IE.var .i64 1) (IE.lit 1))))))] [] [(1004, (LE.cat (LE.cat (LE.take (LE.rom 0) (IE.var .i64 1)) (LE.take (LE.rom 0) (IE.sub (IE.len (LE.rom 0)) (IE.add (IE.var .i64 1) (IE.lit 1))))) (LE.drop (LE.take (LE.rom 0) (IE.var .i64 1)) (IE.add (IE.var .i64 1) (IE.sub (IE.len (LE.rom 0)) (IE.add (IE.var .i64 1) (IE.lit 1)))))))] [] [] []))
def wrgrNo0_3 : VW := (VW.cut 1 ((BE.not (BE.le (IE.add (IE.var .i64 1) (IE.sub (IE.len (LE.rom 0)) (IE.add (IE.var .i64 1) (IE.lit 1)))) (IE.var .i64 1))) :: pcrgrNo0_5) (Sx.Sub.mk [(.i64, (1002, (IE.add (IE.var .i64 1) (IE.sub (IE.len (LE.rom 0)) (IE.add (IE.var .i64 1) (IE.lit 1)))))), (.i64, (1001, (IE.lit 0))), (.i64, (1000, (IE.add (IE.var .i64 1) (IE.sub (IE.len (LE.rom 0)) (IE.add (IE.var .i64 1) (IE.lit 1))))))] [] [(1004, (LE.cat (LE.take (LE.rom 0) (IE.var .i64 1)) (LE.take (LE.rom 0) (IE.sub (IE.len (LE.rom 0)) (IE.add (IE.var .i64 1) (IE.lit 1))))))] [] [] []))
def wrgrNo0_4 : VW := (VW.cut 1 ((BE.le (IE.add (IE.var .i64 1) (IE.sub (IE.len (LE.rom 0)) (IE.add (IE.var .i64 1) (IE.lit 1)))) (IE.var .i64 1)) :: pcrgrNo0_6) (Sx.Sub.mk [(.i64, (1002, (IE.var .i64 1))), (.i64, (1001, (IE.lit 0))), (.i64, (1000, (IE.add (IE.var .i64 1) (IE.sub (IE.len (LE.rom 0)) (IE.add (IE.var .i64 1) (IE.lit 1))))))] [] [(1004, (LE.cat (LE.cat (LE.take (LE.rom 0) (IE.var .i64 1)) (LE.drop (LE.rom 0) (IE.add (IE.var .i64 1) (IE.lit 1)))) (LE.drop (LE.take (LE.rom 0) (IE.var .i64 1)) (IE.add (IE.var .i64 1) (IE.sub (IE.len (LE.rom 0)) (IE.add (IE.var .i64 1) (IE.lit 1)))))))] [] [] []))
def wrgrNo0_5 : VW := (VW.cut 1 ((BE.not (BE.le (IE.add (IE.var .i64 1) (IE.sub (IE.len (LE.rom 0)) (IE.add (IE.var .i64 1) (IE.lit 1)))) (IE.var .i64 1))) :: pcrgrNo0_6) (Sx.Sub.mk [(.i64, (1002, (IE.add (IE.var .i64 1) (IE.sub (IE.len (LE.rom 0)) (IE.add (IE.var .i64 1) (IE.lit 1)))))), (.i64, (1001, (IE.lit 0))), (.i64, (1000, (IE.add (IE.var .i64 1) (IE.sub (IE.len (LE.rom 0)) (IE.add (IE.var .i64 1) (IE.lit 1))))))] [] [(1004, (LE.cat (LE.take (LE.rom 0) (IE.var .i64 1)) (LE.drop (LE.rom 0) (IE.add (IE.var .i64 1) (IE.lit 1)))))] [] [] []))
def wrgrNo0_6 : VW := (VW.done ((BE.not (BE.le (IE.lit 0) (IE.var .i64 1))) :: pcrgrNo0_1) (some [(G.i (IE.fn .i64 7 (AL.lst (LE.rom 0) (AL.int .i64 (IE.var .i64 1) AL.nil))) (IE.lit 4))]))
def wrgrNo0_7 : VW := (VW.done ((BE.not (BE.fn 4 (AL.lst (LE.rom 0) AL.nil))) :: pcrgrNo0_0) (some [(G.i (IE.fn .i64 7 (AL.lst (LE.rom 0) (AL.int .i64 (IE.var .i64 1) AL.nil))) (IE.lit 2))]))
def vwrgrNo0 : List VW := [wrgrNo0_0, wrgrNo0_1, wrgrNo0_2, wrgrNo0_3, wrgrNo0_4, wrgrNo0_5, wrgrNo0_6, wrgrNo0_7]
def pcrgrNo1_0 : List BE := [(BE.lit true), (BE.not (BE.eq (IE.fn .i64 7 (AL.lst (LE.rom 0) (AL.int .i64 (IE.var .i64 1) AL.nil))) (IE.lit 0))), (BE.le (IE.lit 2) (IE.len (LE.rom 0))), (BE.le (IE.len (LE.rom 0)) (IE.lit 1000)), (BE.fn 4 (AL.lst (LE.rom 0) AL.nil)), (BE.le (IE.lit 0) (IE.var .i64 1)), (BE.not (BE.le (IE.len (LE.rom 0)) (IE.var .i64 1))), (BE.le (IE.lit 0) (IE.var .i64 1000)), (BE.not (BE.le (IE.len (LE.rom 0)) (IE.var .i64 1000))), (BE.le (IE.lit 0) (IE.var .i64 1001)), (BE.not (BE.le (IE.len (LE.rom 0)) (IE.var .i64 1001))), (BE.le (IE.lit 0) (IE.var .i64 1002)), (BE.not (BE.le (IE.len (LE.rom 0)) (IE.var .i64 1002))), (BE.and (BE.lit true) (BE.lit true)), (BE.le (IE.lit 0) (IE.cel .i64 (LE.var 1004) (IE.var .i64 1001) 2)), (BE.le (IE.cel .i64 (LE.var 1004) (IE.var .i64 1001) 2) (IE.lit 5)), (BE.le (IE.lit 0) (IE.cel .i64 (LE.var 1004) (IE.var .i64 1001) 4)), (BE.le (IE.cel .i64 (LE.var 1004) (IE.var .i64 1001) 4) (IE.lit 64)), (BE.le (IE.lit 0) (IE.cel .i64 (LE.rom 0) (IE.var .i64 1) 2)), (BE.le (IE.cel .i64 (LE.rom 0) (IE.var .i64 1) 2) (IE.lit 5)), (BE.le (IE.len (LE.rom 0)) (IE.add (IE.var .i64 1000) (IE.lit 1))), (BE.le (IE.var .i64 1000) (IE.var .i64 1002))]
def pcrgrNo1_1 : List BE := ((BE.not (BE.le (IE.var .i64 1) (IE.var .i64 1001))) :: pcrgrNo1_0)
def pcrgrNo1_2 : List BE := ((BE.not (BE.fn 1 (AL.int .i64 (IE.cel .i64 (LE.rom 0) (IE.var .i64 1001) 2) (AL.int .i64 (IE.cel .i64 (LE.rom 0) (IE.var .i64 1) 2) AL.nil)))) :: pcrgrNo1_1)
def wrgrNo1_0 : VW := (VW.done ((BE.le (IE.var .i64 1) (IE.var .i64 1001)) :: pcrgrNo1_0) (some [(G.b (BE.lit true) (BE.lit false))]))
def wrgrNo1_1 : VW := (VW.cut 1 ((BE.fn 1 (AL.int .i64 (IE.cel .i64 (LE.rom 0) (IE.var .i64 1001) 2) (AL.int .i64 (IE.cel .i64 (LE.rom 0) (IE.var .i64 1) 2) AL.nil))) :: pcrgrNo1_1) (Sx.Sub.mk [(.i64, (1002, (IE.var .i64 1002))), (.i64, (1001, (IE.add (IE.var .i64 1001) (IE.lit 1)))), (.i64, (1000, (IE.var .i64 1000)))] [] [(1004, (LE.var 1004))] [] [] []))
def wrgrNo1_2 : VW := (VW.cut 1 ((BE.le (IE.lit 64) (IE.add (IE.cel .i64 (LE.var 1004) (IE.var .i64 1001) 4) (IE.lit 1))) :: pcrgrNo1_2) (Sx.Sub.mk [(.i64, (1002, (IE.var .i64 1002))), (.i64, (1001, (IE.add (IE.var .i64 1001) (IE.lit 1)))), (.i64, (1000, (IE.var .i64 1000)))] [] [(1004, (LE.set (LE.var 1004) (IE.var .i64 1001) (AL.int .i64 (IE.cel .i64 (LE.var 1004) (IE.var .i64 1001) 0) (AL.int .i64 (IE.cel .i64 (LE.var 1004) (IE.var .i64 1001) 1) (AL.int .i64 (IE.cel .i64 (LE.var 1004) (IE.var .i64 1001) 2) (AL.int .i64 (IE.cel .i64 (LE.var 1004) (IE.var .i64 1001) 3) (AL.int .i64 (IE.lit 64) AL.nil)))))))] [] [] []))
def wrgrNo1_3 : VW := (VW.cut 1 ((BE.not (BE.le (IE.lit 64) (IE.add (IE.cel .i64 (LE.var 1004) (IE.var .i64 1001) 4) (IE.lit 1)))) :: pcrgrNo1_2) (Sx.Sub.mk [(.i64, (1002, (IE.var .i64 1002))), (.i64, (1001, (IE.add (IE.var .i64 1001) (IE.lit 1)))), (.i64, (1000, (IE.var .i64 1000)))] [] [(1004, (LE.set (LE.var 1004) (IE.var .i64 1001) (AL.int .i64 (IE.cel .i64 (LE.var 1004) (IE.var .i64 1001) 0) (AL.int .i64 (IE.cel .i64 (LE.var 1004) (IE.var .i64 1001) 1) (AL.int .i64 (IE.cel .i64 (LE.var 1004) (IE.var .i64 1001) 2) (AL.int .i64 (IE.cel .i64 (LE.var 1004) (IE.var .i64 1001) 3) (AL.int .i64 (IE.add (IE.cel .i64 (LE.var 1004) (IE.var .i64 1001) 4) (IE.lit 1)) AL.nil)))))))] [] [] []))
def vwrgrNo1 : List VW := [wrgrNo1_0, wrgrNo1_1, wrgrNo1_2, wrgrNo1_3]
def vwrgrNo : Nat → List VW
  | 0 => vwrgrNo0
  | 1 => vwrgrNo1
  | _ => []
end
def invrgrNo : Nat → Lt → Prop
  | 1, l => False
  | _, _ => True
def msrgrNo : Nat → Lt → Nat
  | 0, l => 1
  | 1, l => 0
  | _, _ => 0
theorem vcrgrNo0_0 : VC TTrgrNo invrgrNo msrgrNo 0 (startF 33 cRGrNo.pat (.lit true :: cRGrNo.pre)) wrgrNo0_0 := by
  intro ρ kn hi hp
  have hF : ρ.z.F = wt.Φ := kn.F
  simp only [h_nil, h_cons, d_le, d_eq, d_not, d_var, d_lit, d_cel, d_leq, d_fn, d_and, d_iff, IE.den, LE.den, AL.den, lenV, true_and, and_true, pcrgrNo0_2, pcrgrNo0_1, pcrgrNo0_0, hF, pi2, pi5, pi6, pi7, pb1, pb2, pb4, pl4, pl6, pl8] at hp
  obtain ⟨p1, p2, p3, p4, p5, p6⟩ := hp
  refine all_cons (show (clampK .i64 (ρ.z.F.i 7 [.lst (ρ.z.rl 0), .int .i64 (ρ.i .i64 1)])) = (4 : Int) from ?_) (all_nil)
  all_goals try simp only [hF, pi2, pi5, pi6, pi7, pb1, pb2, pb4, pl4, pl6, pl8]
  all_goals
    simp only [grE_in] at *
    first
      | (have q := gr2 (f := ρ.i .i64 1) (by assumption : ¬ queueL (ρ.z.rl 0) = true); omega)
      | (have q := gr4 (l := ρ.z.rl 0) (f := ρ.i .i64 1) (by assumption) (by omega); omega)
      | (have q := gr0 (l := ρ.z.rl 0) (f := ρ.i .i64 1) (by assumption) (by omega) (by omega); omega)
theorem vcrgrNo0_1 : VC TTrgrNo invrgrNo msrgrNo 0 (startF 33 cRGrNo.pat (.lit true :: cRGrNo.pre)) wrgrNo0_1 := by
  intro ρ kn hi hp
  have hF : ρ.z.F = wt.Φ := kn.F
  simp only [h_nil, h_cons, d_le, d_eq, d_not, d_var, d_lit, d_cel, d_leq, d_fn, d_and, d_iff, IE.den, LE.den, AL.den, lenV, true_and, and_true, pcrgrNo0_3, pcrgrNo0_2, pcrgrNo0_1, pcrgrNo0_0, hF, pi2, pi5, pi6, pi7, pb1, pb2, pb4, pl4, pl6, pl8] at hp
  obtain ⟨p1, p2, p3, p4, p5, p6, p7⟩ := hp
  refine (show (False) ∧ ((0 : Nat) < 1) from ?_)
  simp only [grE_in] at *
  exact absurd (gr0 (l := ρ.z.rl 0) (f := ρ.i .i64 1) (by assumption) (by omega) (by omega)).1 (by assumption)
theorem vcrgrNo0_2 : VC TTrgrNo invrgrNo msrgrNo 0 (startF 33 cRGrNo.pat (.lit true :: cRGrNo.pre)) wrgrNo0_2 := by
  intro ρ kn hi hp
  have hF : ρ.z.F = wt.Φ := kn.F
  simp only [h_nil, h_cons, d_le, d_eq, d_not, d_var, d_lit, d_cel, d_leq, d_fn, d_and, d_iff, IE.den, LE.den, AL.den, lenV, true_and, and_true, pcrgrNo0_5, pcrgrNo0_4, pcrgrNo0_3, pcrgrNo0_2, pcrgrNo0_1, pcrgrNo0_0, hF, pi2, pi5, pi6, pi7, pb1, pb2, pb4, pl4, pl6, pl8] at hp
  obtain ⟨p1, p2, p3, p4, p5, p6, p7, p8, p9⟩ := hp
  refine (show (False) ∧ ((0 : Nat) < 1) from ?_)
  simp only [grE_in] at *
  exact absurd (gr0 (l := ρ.z.rl 0) (f := ρ.i .i64 1) (by assumption) (by omega) (by omega)).1 (by assumption)
theorem vcrgrNo0_3 : VC TTrgrNo invrgrNo msrgrNo 0 (startF 33 cRGrNo.pat (.lit true :: cRGrNo.pre)) wrgrNo0_3 := by
  intro ρ kn hi hp
  have hF : ρ.z.F = wt.Φ := kn.F
  simp only [h_nil, h_cons, d_le, d_eq, d_not, d_var, d_lit, d_cel, d_leq, d_fn, d_and, d_iff, IE.den, LE.den, AL.den, lenV, true_and, and_true, pcrgrNo0_5, pcrgrNo0_4, pcrgrNo0_3, pcrgrNo0_2, pcrgrNo0_1, pcrgrNo0_0, hF, pi2, pi5, pi6, pi7, pb1, pb2, pb4, pl4, pl6, pl8] at hp
  obtain ⟨p1, p2, p3, p4, p5, p6, p7, p8, p9⟩ := hp
  refine (show (False) ∧ ((0 : Nat) < 1) from ?_)
  simp only [grE_in] at *
  exact absurd (gr0 (l := ρ.z.rl 0) (f := ρ.i .i64 1) (by assumption) (by omega) (by omega)).1 (by assumption)
theorem vcrgrNo0_4 : VC TTrgrNo invrgrNo msrgrNo 0 (startF 33 cRGrNo.pat (.lit true :: cRGrNo.pre)) wrgrNo0_4 := by
  intro ρ kn hi hp
  have hF : ρ.z.F = wt.Φ := kn.F
  simp only [h_nil, h_cons, d_le, d_eq, d_not, d_var, d_lit, d_cel, d_leq, d_fn, d_and, d_iff, IE.den, LE.den, AL.den, lenV, true_and, and_true, pcrgrNo0_6, pcrgrNo0_4, pcrgrNo0_3, pcrgrNo0_2, pcrgrNo0_1, pcrgrNo0_0, hF, pi2, pi5, pi6, pi7, pb1, pb2, pb4, pl4, pl6, pl8] at hp
  obtain ⟨p1, p2, p3, p4, p5, p6, p7, p8, p9⟩ := hp
  refine (show (False) ∧ ((0 : Nat) < 1) from ?_)
  simp only [grE_in] at *
  exact absurd (gr0 (l := ρ.z.rl 0) (f := ρ.i .i64 1) (by assumption) (by omega) (by omega)).1 (by assumption)
theorem vcrgrNo0_5 : VC TTrgrNo invrgrNo msrgrNo 0 (startF 33 cRGrNo.pat (.lit true :: cRGrNo.pre)) wrgrNo0_5 := by
  intro ρ kn hi hp
  have hF : ρ.z.F = wt.Φ := kn.F
  simp only [h_nil, h_cons, d_le, d_eq, d_not, d_var, d_lit, d_cel, d_leq, d_fn, d_and, d_iff, IE.den, LE.den, AL.den, lenV, true_and, and_true, pcrgrNo0_6, pcrgrNo0_4, pcrgrNo0_3, pcrgrNo0_2, pcrgrNo0_1, pcrgrNo0_0, hF, pi2, pi5, pi6, pi7, pb1, pb2, pb4, pl4, pl6, pl8] at hp
  obtain ⟨p1, p2, p3, p4, p5, p6, p7, p8, p9⟩ := hp
  refine (show (False) ∧ ((0 : Nat) < 1) from ?_)
  simp only [grE_in] at *
  exact absurd (gr0 (l := ρ.z.rl 0) (f := ρ.i .i64 1) (by assumption) (by omega) (by omega)).1 (by assumption)
theorem vcrgrNo0_6 : VC TTrgrNo invrgrNo msrgrNo 0 (startF 33 cRGrNo.pat (.lit true :: cRGrNo.pre)) wrgrNo0_6 := by
  intro ρ kn hi hp
  have hF : ρ.z.F = wt.Φ := kn.F
  simp only [h_nil, h_cons, d_le, d_eq, d_not, d_var, d_lit, d_cel, d_leq, d_fn, d_and, d_iff, IE.den, LE.den, AL.den, lenV, true_and, and_true, pcrgrNo0_1, pcrgrNo0_0, hF, pi2, pi5, pi6, pi7, pb1, pb2, pb4, pl4, pl6, pl8] at hp
  obtain ⟨p1, p2, p3, p4, p5⟩ := hp
  refine all_cons (show (clampK .i64 (ρ.z.F.i 7 [.lst (ρ.z.rl 0), .int .i64 (ρ.i .i64 1)])) = (4 : Int) from ?_) (all_nil)
  all_goals try simp only [hF, pi2, pi5, pi6, pi7, pb1, pb2, pb4, pl4, pl6, pl8]
  all_goals
    simp only [grE_in] at *
    first
      | (have q := gr2 (f := ρ.i .i64 1) (by assumption : ¬ queueL (ρ.z.rl 0) = true); omega)
      | (have q := gr4 (l := ρ.z.rl 0) (f := ρ.i .i64 1) (by assumption) (by omega); omega)
      | (have q := gr0 (l := ρ.z.rl 0) (f := ρ.i .i64 1) (by assumption) (by omega) (by omega); omega)
theorem vcrgrNo0_7 : VC TTrgrNo invrgrNo msrgrNo 0 (startF 33 cRGrNo.pat (.lit true :: cRGrNo.pre)) wrgrNo0_7 := by
  intro ρ kn hi hp
  have hF : ρ.z.F = wt.Φ := kn.F
  simp only [h_nil, h_cons, d_le, d_eq, d_not, d_var, d_lit, d_cel, d_leq, d_fn, d_and, d_iff, IE.den, LE.den, AL.den, lenV, true_and, and_true, pcrgrNo0_0, hF, pi2, pi5, pi6, pi7, pb1, pb2, pb4, pl4, pl6, pl8] at hp
  obtain ⟨p1, p2, p3, p4⟩ := hp
  refine all_cons (show (clampK .i64 (ρ.z.F.i 7 [.lst (ρ.z.rl 0), .int .i64 (ρ.i .i64 1)])) = (2 : Int) from ?_) (all_nil)
  all_goals try simp only [hF, pi2, pi5, pi6, pi7, pb1, pb2, pb4, pl4, pl6, pl8]
  all_goals
    simp only [grE_in] at *
    first
      | (have q := gr2 (f := ρ.i .i64 1) (by assumption : ¬ queueL (ρ.z.rl 0) = true); omega)
      | (have q := gr4 (l := ρ.z.rl 0) (f := ρ.i .i64 1) (by assumption) (by omega); omega)
      | (have q := gr0 (l := ρ.z.rl 0) (f := ρ.i .i64 1) (by assumption) (by omega) (by omega); omega)
def ivrgrNo1 (ρ : Rho) : Prop := False
theorem vcrgrNo1_0 : VC TTrgrNo invrgrNo msrgrNo 1 trgrNo1 wrgrNo1_0 := by
  intro ρ kn hi hp
  have hi : ivrgrNo1 ρ := hi
  unfold ivrgrNo1 at hi
  have hF : ρ.z.F = wt.Φ := kn.F
  simp only [h_nil, h_cons, d_le, d_eq, d_not, d_var, d_lit, d_cel, d_leq, d_fn, d_and, d_iff, IE.den, LE.den, AL.den, lenV, true_and, and_true, pcrgrNo1_0, hF, pi2, pi5, pi6, pi7, pb1, pb2, pb4, pl4, pl6, pl8] at hp
  obtain ⟨p1, p2, p3, p4, p5, p6, p7, p8, p9, p10, p11, p12, p13, p14, p15, p16, p17, p18, p19, p20, p21⟩ := hp
  exfalso
  exact hi.elim
theorem vcrgrNo1_1 : VC TTrgrNo invrgrNo msrgrNo 1 trgrNo1 wrgrNo1_1 := by
  intro ρ kn hi hp
  have hi : ivrgrNo1 ρ := hi
  unfold ivrgrNo1 at hi
  have hF : ρ.z.F = wt.Φ := kn.F
  simp only [h_nil, h_cons, d_le, d_eq, d_not, d_var, d_lit, d_cel, d_leq, d_fn, d_and, d_iff, IE.den, LE.den, AL.den, lenV, true_and, and_true, pcrgrNo1_1, pcrgrNo1_0, hF, pi2, pi5, pi6, pi7, pb1, pb2, pb4, pl4, pl6, pl8] at hp
  obtain ⟨p1, p2, p3, p4, p5, p6, p7, p8, p9, p10, p11, p12, p13, p14, p15, p16, p17, p18, p19, p20, p21, p22⟩ := hp
  refine (show (False) ∧ ((0 : Nat) < 0) from ?_)
  exact hi.elim
theorem vcrgrNo1_2 : VC TTrgrNo invrgrNo msrgrNo 1 trgrNo1 wrgrNo1_2 := by
  intro ρ kn hi hp
  have hi : ivrgrNo1 ρ := hi
  unfold ivrgrNo1 at hi
  have hF : ρ.z.F = wt.Φ := kn.F
  simp only [h_nil, h_cons, d_le, d_eq, d_not, d_var, d_lit, d_cel, d_leq, d_fn, d_and, d_iff, IE.den, LE.den, AL.den, lenV, true_and, and_true, pcrgrNo1_2, pcrgrNo1_1, pcrgrNo1_0, hF, pi2, pi5, pi6, pi7, pb1, pb2, pb4, pl4, pl6, pl8] at hp
  obtain ⟨p1, p2, p3, p4, p5, p6, p7, p8, p9, p10, p11, p12, p13, p14, p15, p16, p17, p18, p19, p20, p21, p22, p23⟩ := hp
  refine (show (False) ∧ ((0 : Nat) < 0) from ?_)
  exact hi.elim
theorem vcrgrNo1_3 : VC TTrgrNo invrgrNo msrgrNo 1 trgrNo1 wrgrNo1_3 := by
  intro ρ kn hi hp
  have hi : ivrgrNo1 ρ := hi
  unfold ivrgrNo1 at hi
  have hF : ρ.z.F = wt.Φ := kn.F
  simp only [h_nil, h_cons, d_le, d_eq, d_not, d_var, d_lit, d_cel, d_leq, d_fn, d_and, d_iff, IE.den, LE.den, AL.den, lenV, true_and, and_true, pcrgrNo1_2, pcrgrNo1_1, pcrgrNo1_0, hF, pi2, pi5, pi6, pi7, pb1, pb2, pb4, pl4, pl6, pl8] at hp
  obtain ⟨p1, p2, p3, p4, p5, p6, p7, p8, p9, p10, p11, p12, p13, p14, p15, p16, p17, p18, p19, p20, p21, p22, p23⟩ := hp
  refine (show (False) ∧ ((0 : Nat) < 0) from ?_)
  exact hi.elim
theorem vcsrgrNo0 : ∀ v ∈ vwrgrNo 0, VC TTrgrNo invrgrNo msrgrNo 0 (startF 33 cRGrNo.pat (.lit true :: cRGrNo.pre)) v := all_cons vcrgrNo0_0 (all_cons vcrgrNo0_1 (all_cons vcrgrNo0_2 (all_cons vcrgrNo0_3 (all_cons vcrgrNo0_4 (all_cons vcrgrNo0_5 (all_cons vcrgrNo0_6 (all_cons vcrgrNo0_7 (all_nil))))))))
theorem okrgrNo0 : cfgOk (startF 33 cRGrNo.pat (.lit true :: cRGrNo.pre)) = true := by kernel_rfl
theorem sgrgrNo0 : segL cRGrNo.roms cRGrNo (seg TTrgrNo selrgrNo 3000 tmrgrNo (startF 33 cRGrNo.pat (.lit true :: cRGrNo.pre))) = (true, codesR tmrgrNo (views (seg TTrgrNo selrgrNo 3000 tmrgrNo (startF 33 cRGrNo.pat (.lit true :: cRGrNo.pre)))), vwrgrNo 0) := by kernel_rfl
theorem vcsrgrNo1 : ∀ v ∈ vwrgrNo 1, VC TTrgrNo invrgrNo msrgrNo 1 trgrNo1 v := all_cons vcrgrNo1_0 (all_cons vcrgrNo1_1 (all_cons vcrgrNo1_2 (all_cons vcrgrNo1_3 (all_nil))))
theorem okrgrNo1 : cfgOk trgrNo1 = true := by kernel_rfl
theorem sgrgrNo1 : segL cRGrNo.roms cRGrNo (seg TTrgrNo selrgrNo 3000 tmrgrNo trgrNo1) = (true, codesR tmrgrNo (views (seg TTrgrNo selrgrNo 3000 tmrgrNo trgrNo1)), vwrgrNo 1) := by kernel_rfl
theorem lnrgrNo0 : ∀ ρ, Known TTrgrNo (startF 33 cRGrNo.pat (.lit true :: cRGrNo.pre)) ρ → invrgrNo 0 ρ.lt → Holds ρ (leanOf (Cfg.pc (startF 33 cRGrNo.pat (.lit true :: cRGrNo.pre)))) := by
  intro ρ _ _
  exact (show Holds ρ [] from fun p hp => by cases hp)
theorem lnrgrNo1 : ∀ ρ, Known TTrgrNo trgrNo1 ρ → invrgrNo 1 ρ.lt → Holds ρ (leanOf (Cfg.pc trgrNo1)) := by
  intro ρ kn hi
  refine (show Holds ρ [.le (.lit 0) (.cel .i64 (.var 1004) (.var .i64 1001) 2), .le (.cel .i64 (.var 1004) (.var .i64 1001) 2) (.lit 5), .le (.lit 0) (.cel .i64 (.var 1004) (.var .i64 1001) 4), .le (.cel .i64 (.var 1004) (.var .i64 1001) 4) (.lit 64), .le (.lit 0) (.cel .i64 (.rom 0) (xv 1) 2), .le (.cel .i64 (.rom 0) (xv 1) 2) (.lit 5), .le (ln 0) (.add (.var .i64 1000) (.lit 1)), .le (.var .i64 1000) (.var .i64 1002)] from ?_)
  have hi : False := hi
  have hF : ρ.z.F = wt.Φ := kn.F
  simp only [h_nil, h_cons, d_le, d_eq, d_not, d_var, d_lit, d_cel, d_leq, d_fn, d_and, d_iff, IE.den, LE.den, AL.den, lenV, true_and, and_true, hF, pi2, pi5, pi6, pi7, pb1, pb2, pb4, pl4, pl6, pl8]
  exact hi.elim
theorem told_rgrNo : Sx.Told wt.Φ cRGrNo := by
  refine told_of (cs := [cQueueP, cQueueR, cFitsM, cFits03]) (all_cons told_queueP (all_cons told_queueR (all_cons told_fitsM (all_cons told_fits03 (all_nil))))) (sel := selrgrNo) 3000 tmrgrNo invrgrNo msrgrNo vwrgrNo 0 (pc0 := (.lit true :: cRGrNo.pre)) (by kernel_rfl) (by kernel_rfl) (by kernel_rfl) (post_nil rfl) ?_ ?_ ?_ rfl (fun ρ _ h => h.cons (p := .lit true) (by simp only [BE.den])) (fun _ _ _ _ => trivial) ?_
  · intro k C h
    have := lk_mem h
    simp only [tmrgrNo, List.mem_cons, Prod.mk.injEq, List.not_mem_nil, or_false] at this
    rcases this with ⟨rfl, rfl⟩ | ⟨rfl, rfl⟩
    · exact okrgrNo0
    · exact okrgrNo1
  · intro k C h
    have := lk_mem h
    simp only [tmrgrNo, List.mem_cons, Prod.mk.injEq, List.not_mem_nil, or_false] at this
    rcases this with ⟨rfl, rfl⟩ | ⟨rfl, rfl⟩
    · exact sgrgrNo0
    · exact sgrgrNo1
  · intro k C h
    have := lk_mem h
    simp only [tmrgrNo, List.mem_cons, Prod.mk.injEq, List.not_mem_nil, or_false] at this
    rcases this with ⟨rfl, rfl⟩ | ⟨rfl, rfl⟩
    · exact vcsrgrNo0
    · exact vcsrgrNo1
  · intro k C h
    have := lk_mem h
    simp only [tmrgrNo, List.mem_cons, Prod.mk.injEq, List.not_mem_nil, or_false] at this
    rcases this with ⟨rfl, rfl⟩ | ⟨rfl, rfl⟩
    · exact lnrgrNo0
    · exact lnrgrNo1
end Go.Proofs.YteblnjgghbclpaaDoor.wt
