/- Layer octet: texts, told. No condition. -/
import Derived.Test.YtjgkaimgocnkmaaTa
set_option linter.unusedVariables false
set_option linter.unusedSimpArgs false
set_option linter.deprecated false
namespace Go.Proofs.Ytjgkaimgocnkmaa.oct
open Go Go.Proofs.Ytjgkaimgocnkmaa.Sx
theorem post_rreadt : PostOk Φ cRReadT := by
  intro ρ hF hp
  have h := txtN_rng (ρ.z.rl 0)
  have hm := hp (.le (ln 0) (.lit 2000)) (by simp [cRReadT])
  simp only [ln, d_le, IE.den, LE.den, lenV] at hm
  show Holds ρ [_, _]
  simp only [h_nil, h_cons, d_le, IE.den, LE.den, AL.den, rdA, ln, lenV, hF, pi8, and_true]
  rw [clampS (by omega) (by omega)]
  omega
noncomputable section
abbrev TTreadt : Tab := T oct.Φ cReadT.roms []
def treadt1 : Cfg := { top := ⟨60, over (opqS 10000 64) [(0, (SV.ptr 0 0)), (4, (SV.int .u64 (IE.var .u64 1000))), (5, (SV.int .i64 (IE.lit 110))), (21, (SV.rom 0 (IE.lit 0) (IE.len (LE.rom 0)) (some (IE.len (LE.rom 0))))), (22, (SV.int .i64 (IE.len (LE.rom 0)))), (23, (SV.int .i64 (IE.var .i64 1001)))], ogt (loopTodo (bodyOf (T oct.Φ [] []) 60) 0), [], false, none⟩, rest := [⟨62, over (opqS 30000 48) [(0, (SV.ptr 0 0))], ogt (callTodo (bodyOf (T oct.Φ [] []) 62) 1 [1, 2, 3, 4, 5, 6]), [], false, none⟩, ⟨26, over (opqS 50000 20) [(5, (SV.ptr 0 0))], ogt (callTodo (bodyOf (T oct.Φ [] []) 26) 2 [0, 1, 2, 3, 4, 5]), [], false, none⟩], heap := [(0, .cells [(SV.rom 0 (IE.lit 0) (IE.len (LE.rom 0)) none), (SV.int .i64 (IE.lit 0))] 110)], next := 1, pc := .lit true :: ([] ++ [(BE.le (IE.lit 0) (IE.var .i64 1001)), (BE.le (IE.var .i64 1001) (IE.len (LE.rom 0)))] ++ (.and (.lit true) (.lit true)) :: [.le (.var .i64 1001) (.lit 9)]) }
def tmreadt : List (Nat × Cfg) := [(0, startF 26 cReadT.pat [.lit true]), (1, treadt1)]
def selreadt : Sel := [(60, 1, 2, 1)]
def wreadt0_0 : VW := (VW.cut 1 [(BE.lit true)] (Sx.Sub.mk [(.i64, (1001, (IE.lit 0))), (.u64, (1000, (IE.lit 0)))] [] [] [] [] []))
def vwreadt0 : List VW := [wreadt0_0]
def pcreadt1_0 : List BE := [(BE.lit true), (BE.le (IE.lit 0) (IE.var .i64 1001)), (BE.le (IE.var .i64 1001) (IE.len (LE.rom 0))), (BE.and (BE.lit true) (BE.lit true)), (BE.le (IE.var .i64 1001) (IE.lit 9))]
def pcreadt1_1 : List BE := ((BE.not (BE.le (IE.len (LE.rom 0)) (IE.var .i64 1001))) :: pcreadt1_0)
def pcreadt1_2 : List BE := ((BE.le (IE.var .i64 1001) (IE.lit 0)) :: pcreadt1_1)
def pcreadt1_3 : List BE := ((BE.not (BE.le (IE.var .i64 1001) (IE.lit 0))) :: pcreadt1_1)
def pcreadt1_4 : List BE := ((BE.not (BE.le (IE.lit 128) (IE.cel .u8 (LE.rom 0) (IE.var .i64 1001) 0))) :: pcreadt1_2)
def pcreadt1_5 : List BE := ((BE.not (BE.eq (IE.cel .u8 (LE.rom 0) (IE.var .i64 1001) 0) (IE.lit 0))) :: pcreadt1_3)
def pcreadt1_6 : List BE := ((BE.le (IE.bin BinOp.or .u64 (IE.var .u64 1000) (IE.bin BinOp.shl .u64 (IE.bin BinOp.and .u8 (IE.cel .u8 (LE.rom 0) (IE.var .i64 1001) 0) (IE.lit 127)) (IE.mul (IE.lit 7) (IE.var .i64 1001)))) (IE.sub (IE.len (LE.rom 0)) (IE.add (IE.lit 0) (IE.add (IE.var .i64 1001) (IE.lit 1))))) :: pcreadt1_4)
def pcreadt1_7 : List BE := ((BE.eq (IE.var .i64 1001) (IE.lit 9)) :: pcreadt1_5)
def pcreadt1_8 : List BE := ((BE.not (BE.eq (IE.var .i64 1001) (IE.lit 9))) :: pcreadt1_5)
def pcreadt1_9 : List BE := ((BE.le (IE.cel .u8 (LE.rom 0) (IE.var .i64 1001) 0) (IE.lit 1)) :: pcreadt1_7)
def pcreadt1_10 : List BE := ((BE.not (BE.le (IE.lit 128) (IE.cel .u8 (LE.rom 0) (IE.var .i64 1001) 0))) :: pcreadt1_8)
def pcreadt1_11 : List BE := ((BE.le (IE.bin BinOp.or .u64 (IE.var .u64 1000) (IE.bin BinOp.shl .u64 (IE.bin BinOp.and .u8 (IE.cel .u8 (LE.rom 0) (IE.var .i64 1001) 0) (IE.lit 127)) (IE.mul (IE.lit 7) (IE.var .i64 1001)))) (IE.sub (IE.len (LE.rom 0)) (IE.add (IE.lit 0) (IE.add (IE.var .i64 1001) (IE.lit 1))))) :: pcreadt1_9)
def pcreadt1_12 : List BE := ((BE.le (IE.bin BinOp.or .u64 (IE.var .u64 1000) (IE.bin BinOp.shl .u64 (IE.bin BinOp.and .u8 (IE.cel .u8 (LE.rom 0) (IE.var .i64 1001) 0) (IE.lit 127)) (IE.mul (IE.lit 7) (IE.var .i64 1001)))) (IE.sub (IE.len (LE.rom 0)) (IE.add (IE.lit 0) (IE.add (IE.var .i64 1001) (IE.lit 1))))) :: pcreadt1_10)
def wreadt1_0 : VW := (VW.done ((BE.le (IE.len (LE.rom 0)) (IE.var .i64 1001)) :: pcreadt1_0) (some [(G.l (LE.fn 3 (AL.lst (LE.rom 0) AL.nil)) LE.nil), (G.i (IE.fn .i64 8 (AL.lst (LE.rom 0) AL.nil)) (IE.lit 0)), (G.i (IE.fn .i64 9 (AL.lst (LE.rom 0) AL.nil)) (IE.lit 110))]))
def wreadt1_1 : VW := (VW.cut 1 ((BE.le (IE.lit 128) (IE.cel .u8 (LE.rom 0) (IE.var .i64 1001) 0)) :: pcreadt1_2) (Sx.Sub.mk [(.i64, (1001, (IE.add (IE.var .i64 1001) (IE.lit 1)))), (.u64, (1000, (IE.bin BinOp.or .u64 (IE.var .u64 1000) (IE.bin BinOp.shl .u64 (IE.bin BinOp.and .u8 (IE.cel .u8 (LE.rom 0) (IE.var .i64 1001) 0) (IE.lit 127)) (IE.mul (IE.lit 7) (IE.var .i64 1001))))))] [] [] [] [] []))
def wreadt1_2 : VW := (VW.done ((BE.eq (IE.add (IE.add (IE.lit 0) (IE.add (IE.var .i64 1001) (IE.lit 1))) (IE.bin BinOp.or .u64 (IE.var .u64 1000) (IE.bin BinOp.shl .u64 (IE.bin BinOp.and .u8 (IE.cel .u8 (LE.rom 0) (IE.var .i64 1001) 0) (IE.lit 127)) (IE.mul (IE.lit 7) (IE.var .i64 1001))))) (IE.add (IE.lit 0) (IE.add (IE.var .i64 1001) (IE.lit 1)))) :: pcreadt1_6) (some [(G.l (LE.fn 3 (AL.lst (LE.rom 0) AL.nil)) (LE.take (LE.rom 0) (IE.bin BinOp.or .u64 (IE.var .u64 1000) (IE.bin BinOp.shl .u64 (IE.bin BinOp.and .u8 (IE.cel .u8 (LE.rom 0) (IE.var .i64 1001) 0) (IE.lit 127)) (IE.mul (IE.lit 7) (IE.var .i64 1001)))))), (G.i (IE.fn .i64 8 (AL.lst (LE.rom 0) AL.nil)) (IE.add (IE.add (IE.lit 0) (IE.add (IE.var .i64 1001) (IE.lit 1))) (IE.bin BinOp.or .u64 (IE.var .u64 1000) (IE.bin BinOp.shl .u64 (IE.bin BinOp.and .u8 (IE.cel .u8 (LE.rom 0) (IE.var .i64 1001) 0) (IE.lit 127)) (IE.mul (IE.lit 7) (IE.var .i64 1001)))))), (G.i (IE.fn .i64 9 (AL.lst (LE.rom 0) AL.nil)) (IE.lit 0))]))
def wreadt1_3 : VW := (VW.done ((BE.not (BE.eq (IE.add (IE.add (IE.lit 0) (IE.add (IE.var .i64 1001) (IE.lit 1))) (IE.bin BinOp.or .u64 (IE.var .u64 1000) (IE.bin BinOp.shl .u64 (IE.bin BinOp.and .u8 (IE.cel .u8 (LE.rom 0) (IE.var .i64 1001) 0) (IE.lit 127)) (IE.mul (IE.lit 7) (IE.var .i64 1001))))) (IE.add (IE.lit 0) (IE.add (IE.var .i64 1001) (IE.lit 1))))) :: pcreadt1_6) (some [(G.l (LE.fn 3 (AL.lst (LE.rom 0) AL.nil)) (LE.take (LE.drop (LE.rom 0) (IE.add (IE.var .i64 1001) (IE.lit 1))) (IE.bin BinOp.or .u64 (IE.var .u64 1000) (IE.bin BinOp.shl .u64 (IE.bin BinOp.and .u8 (IE.cel .u8 (LE.rom 0) (IE.var .i64 1001) 0) (IE.lit 127)) (IE.mul (IE.lit 7) (IE.var .i64 1001)))))), (G.i (IE.fn .i64 8 (AL.lst (LE.rom 0) AL.nil)) (IE.add (IE.add (IE.lit 0) (IE.add (IE.var .i64 1001) (IE.lit 1))) (IE.bin BinOp.or .u64 (IE.var .u64 1000) (IE.bin BinOp.shl .u64 (IE.bin BinOp.and .u8 (IE.cel .u8 (LE.rom 0) (IE.var .i64 1001) 0) (IE.lit 127)) (IE.mul (IE.lit 7) (IE.var .i64 1001)))))), (G.i (IE.fn .i64 9 (AL.lst (LE.rom 0) AL.nil)) (IE.lit 0))]))
def wreadt1_4 : VW := (VW.done ((BE.not (BE.le (IE.bin BinOp.or .u64 (IE.var .u64 1000) (IE.bin BinOp.shl .u64 (IE.bin BinOp.and .u8 (IE.cel .u8 (LE.rom 0) (IE.var .i64 1001) 0) (IE.lit 127)) (IE.mul (IE.lit 7) (IE.var .i64 1001)))) (IE.sub (IE.len (LE.rom 0)) (IE.add (IE.lit 0) (IE.add (IE.var .i64 1001) (IE.lit 1)))))) :: pcreadt1_4) (some [(G.l (LE.fn 3 (AL.lst (LE.rom 0) AL.nil)) LE.nil), (G.i (IE.fn .i64 8 (AL.lst (LE.rom 0) AL.nil)) (IE.lit 0)), (G.i (IE.fn .i64 9 (AL.lst (LE.rom 0) AL.nil)) (IE.lit 110))]))
def wreadt1_5 : VW := (VW.done ((BE.eq (IE.cel .u8 (LE.rom 0) (IE.var .i64 1001) 0) (IE.lit 0)) :: pcreadt1_3) (some [(G.l (LE.fn 3 (AL.lst (LE.rom 0) AL.nil)) LE.nil), (G.i (IE.fn .i64 8 (AL.lst (LE.rom 0) AL.nil)) (IE.lit 0)), (G.i (IE.fn .i64 9 (AL.lst (LE.rom 0) AL.nil)) (IE.lit 111))]))
def wreadt1_6 : VW := (VW.done ((BE.eq (IE.add (IE.add (IE.lit 0) (IE.add (IE.var .i64 1001) (IE.lit 1))) (IE.bin BinOp.or .u64 (IE.var .u64 1000) (IE.bin BinOp.shl .u64 (IE.bin BinOp.and .u8 (IE.cel .u8 (LE.rom 0) (IE.var .i64 1001) 0) (IE.lit 127)) (IE.mul (IE.lit 7) (IE.var .i64 1001))))) (IE.add (IE.lit 0) (IE.add (IE.var .i64 1001) (IE.lit 1)))) :: pcreadt1_11) (some [(G.l (LE.fn 3 (AL.lst (LE.rom 0) AL.nil)) (LE.take (LE.rom 0) (IE.bin BinOp.or .u64 (IE.var .u64 1000) (IE.bin BinOp.shl .u64 (IE.bin BinOp.and .u8 (IE.cel .u8 (LE.rom 0) (IE.var .i64 1001) 0) (IE.lit 127)) (IE.mul (IE.lit 7) (IE.var .i64 1001)))))), (G.i (IE.fn .i64 8 (AL.lst (LE.rom 0) AL.nil)) (IE.add (IE.add (IE.lit 0) (IE.add (IE.var .i64 1001) (IE.lit 1))) (IE.bin BinOp.or .u64 (IE.var .u64 1000) (IE.bin BinOp.shl .u64 (IE.bin BinOp.and .u8 (IE.cel .u8 (LE.rom 0) (IE.var .i64 1001) 0) (IE.lit 127)) (IE.mul (IE.lit 7) (IE.var .i64 1001)))))), (G.i (IE.fn .i64 9 (AL.lst (LE.rom 0) AL.nil)) (IE.lit 0))]))
def wreadt1_7 : VW := (VW.done ((BE.not (BE.eq (IE.add (IE.add (IE.lit 0) (IE.add (IE.var .i64 1001) (IE.lit 1))) (IE.bin BinOp.or .u64 (IE.var .u64 1000) (IE.bin BinOp.shl .u64 (IE.bin BinOp.and .u8 (IE.cel .u8 (LE.rom 0) (IE.var .i64 1001) 0) (IE.lit 127)) (IE.mul (IE.lit 7) (IE.var .i64 1001))))) (IE.add (IE.lit 0) (IE.add (IE.var .i64 1001) (IE.lit 1))))) :: pcreadt1_11) (some [(G.l (LE.fn 3 (AL.lst (LE.rom 0) AL.nil)) (LE.take (LE.drop (LE.rom 0) (IE.add (IE.var .i64 1001) (IE.lit 1))) (IE.bin BinOp.or .u64 (IE.var .u64 1000) (IE.bin BinOp.shl .u64 (IE.bin BinOp.and .u8 (IE.cel .u8 (LE.rom 0) (IE.var .i64 1001) 0) (IE.lit 127)) (IE.mul (IE.lit 7) (IE.var .i64 1001)))))), (G.i (IE.fn .i64 8 (AL.lst (LE.rom 0) AL.nil)) (IE.add (IE.add (IE.lit 0) (IE.add (IE.var .i64 1001) (IE.lit 1))) (IE.bin BinOp.or .u64 (IE.var .u64 1000) (IE.bin BinOp.shl .u64 (IE.bin BinOp.and .u8 (IE.cel .u8 (LE.rom 0) (IE.var .i64 1001) 0) (IE.lit 127)) (IE.mul (IE.lit 7) (IE.var .i64 1001)))))), (G.i (IE.fn .i64 9 (AL.lst (LE.rom 0) AL.nil)) (IE.lit 0))]))
def wreadt1_8 : VW := (VW.done ((BE.not (BE.le (IE.bin BinOp.or .u64 (IE.var .u64 1000) (IE.bin BinOp.shl .u64 (IE.bin BinOp.and .u8 (IE.cel .u8 (LE.rom 0) (IE.var .i64 1001) 0) (IE.lit 127)) (IE.mul (IE.lit 7) (IE.var .i64 1001)))) (IE.sub (IE.len (LE.rom 0)) (IE.add (IE.lit 0) (IE.add (IE.var .i64 1001) (IE.lit 1)))))) :: pcreadt1_9) (some [(G.l (LE.fn 3 (AL.lst (LE.rom 0) AL.nil)) LE.nil), (G.i (IE.fn .i64 8 (AL.lst (LE.rom 0) AL.nil)) (IE.lit 0)), (G.i (IE.fn .i64 9 (AL.lst (LE.rom 0) AL.nil)) (IE.lit 110))]))
def wreadt1_9 : VW := (VW.done ((BE.not (BE.le (IE.cel .u8 (LE.rom 0) (IE.var .i64 1001) 0) (IE.lit 1))) :: pcreadt1_7) (some [(G.l (LE.fn 3 (AL.lst (LE.rom 0) AL.nil)) LE.nil), (G.i (IE.fn .i64 8 (AL.lst (LE.rom 0) AL.nil)) (IE.lit 0)), (G.i (IE.fn .i64 9 (AL.lst (LE.rom 0) AL.nil)) (IE.lit 111))]))
def wreadt1_10 : VW := (VW.cut 1 ((BE.le (IE.lit 128) (IE.cel .u8 (LE.rom 0) (IE.var .i64 1001) 0)) :: pcreadt1_8) (Sx.Sub.mk [(.i64, (1001, (IE.add (IE.var .i64 1001) (IE.lit 1)))), (.u64, (1000, (IE.bin BinOp.or .u64 (IE.var .u64 1000) (IE.bin BinOp.shl .u64 (IE.bin BinOp.and .u8 (IE.cel .u8 (LE.rom 0) (IE.var .i64 1001) 0) (IE.lit 127)) (IE.mul (IE.lit 7) (IE.var .i64 1001))))))] [] [] [] [] []))
def wreadt1_11 : VW := (VW.done ((BE.eq (IE.add (IE.add (IE.lit 0) (IE.add (IE.var .i64 1001) (IE.lit 1))) (IE.bin BinOp.or .u64 (IE.var .u64 1000) (IE.bin BinOp.shl .u64 (IE.bin BinOp.and .u8 (IE.cel .u8 (LE.rom 0) (IE.var .i64 1001) 0) (IE.lit 127)) (IE.mul (IE.lit 7) (IE.var .i64 1001))))) (IE.add (IE.lit 0) (IE.add (IE.var .i64 1001) (IE.lit 1)))) :: pcreadt1_12) (some [(G.l (LE.fn 3 (AL.lst (LE.rom 0) AL.nil)) (LE.take (LE.rom 0) (IE.bin BinOp.or .u64 (IE.var .u64 1000) (IE.bin BinOp.shl .u64 (IE.bin BinOp.and .u8 (IE.cel .u8 (LE.rom 0) (IE.var .i64 1001) 0) (IE.lit 127)) (IE.mul (IE.lit 7) (IE.var .i64 1001)))))), (G.i (IE.fn .i64 8 (AL.lst (LE.rom 0) AL.nil)) (IE.add (IE.add (IE.lit 0) (IE.add (IE.var .i64 1001) (IE.lit 1))) (IE.bin BinOp.or .u64 (IE.var .u64 1000) (IE.bin BinOp.shl .u64 (IE.bin BinOp.and .u8 (IE.cel .u8 (LE.rom 0) (IE.var .i64 1001) 0) (IE.lit 127)) (IE.mul (IE.lit 7) (IE.var .i64 1001)))))), (G.i (IE.fn .i64 9 (AL.lst (LE.rom 0) AL.nil)) (IE.lit 0))]))
def wreadt1_12 : VW := (VW.done ((BE.not (BE.eq (IE.add (IE.add (IE.lit 0) (IE.add (IE.var .i64 1001) (IE.lit 1))) (IE.bin BinOp.or .u64 (IE.var .u64 1000) (IE.bin BinOp.shl .u64 (IE.bin BinOp.and .u8 (IE.cel .u8 (LE.rom 0) (IE.var .i64 1001) 0) (IE.lit 127)) (IE.mul (IE.lit 7) (IE.var .i64 1001))))) (IE.add (IE.lit 0) (IE.add (IE.var .i64 1001) (IE.lit 1))))) :: pcreadt1_12) (some [(G.l (LE.fn 3 (AL.lst (LE.rom 0) AL.nil)) (LE.take (LE.drop (LE.rom 0) (IE.add (IE.var .i64 1001) (IE.lit 1))) (IE.bin BinOp.or .u64 (IE.var .u64 1000) (IE.bin BinOp.shl .u64 (IE.bin BinOp.and .u8 (IE.cel .u8 (LE.rom 0) (IE.var .i64 1001) 0) (IE.lit 127)) (IE.mul (IE.lit 7) (IE.var .i64 1001)))))), (G.i (IE.fn .i64 8 (AL.lst (LE.rom 0) AL.nil)) (IE.add (IE.add (IE.lit 0) (IE.add (IE.var .i64 1001) (IE.lit 1))) (IE.bin BinOp.or .u64 (IE.var .u64 1000) (IE.bin BinOp.shl .u64 (IE.bin BinOp.and .u8 (IE.cel .u8 (LE.rom 0) (IE.var .i64 1001) 0) (IE.lit 127)) (IE.mul (IE.lit 7) (IE.var .i64 1001)))))), (G.i (IE.fn .i64 9 (AL.lst (LE.rom 0) AL.nil)) (IE.lit 0))]))
def wreadt1_13 : VW := (VW.done ((BE.not (BE.le (IE.bin BinOp.or .u64 (IE.var .u64 1000) (IE.bin BinOp.shl .u64 (IE.bin BinOp.and .u8 (IE.cel .u8 (LE.rom 0) (IE.var .i64 1001) 0) (IE.lit 127)) (IE.mul (IE.lit 7) (IE.var .i64 1001)))) (IE.sub (IE.len (LE.rom 0)) (IE.add (IE.lit 0) (IE.add (IE.var .i64 1001) (IE.lit 1)))))) :: pcreadt1_10) (some [(G.l (LE.fn 3 (AL.lst (LE.rom 0) AL.nil)) LE.nil), (G.i (IE.fn .i64 8 (AL.lst (LE.rom 0) AL.nil)) (IE.lit 0)), (G.i (IE.fn .i64 9 (AL.lst (LE.rom 0) AL.nil)) (IE.lit 110))]))
def vwreadt1 : List VW := [wreadt1_0, wreadt1_1, wreadt1_2, wreadt1_3, wreadt1_4, wreadt1_5, wreadt1_6, wreadt1_7, wreadt1_8, wreadt1_9, wreadt1_10, wreadt1_11, wreadt1_12, wreadt1_13]
def vwreadt : Nat → List VW
  | 0 => vwreadt0
  | 1 => vwreadt1
  | _ => []
end
def invreadt : Nat → Lt → Prop
  | 1, l => firstP (stopP (l.z.rl 0)) (l.i .i64 1001).toNat = (l.i .i64 1001).toNat ∧ (l.i .u64 1000) = valI (l.z.rl 0) (l.i .i64 1001).toNat
  | _, _ => True
def msreadt : Nat → Lt → Nat
  | 0, l => (l.z.rl 0).length + 1
  | 1, l => (l.z.rl 0).length - (l.i .i64 1001).toNat
  | _, _ => 0
theorem vcreadt0_0 : VC TTreadt invreadt msreadt 0 (startF 26 cReadT.pat [.lit true]) wreadt0_0 := by
  intro ρ kn hi hp
  have hF : ρ.z.F = oct.Φ := kn.F
  simp only [h_nil, h_cons, d_le, d_eq, d_not, d_var, d_lit, d_cel, d_leq, d_fn, d_and, d_iff, IE.den, LE.den, AL.den, lenV, true_and, and_true, hF, pi2, pi3, pi4, pi5, pi6, pi7, pl1, pi8, pi9, pl3] at hp
  refine (show (firstP (stopP (ρ.z.rl 0)) (0 : Int).toNat = (0 : Int).toNat ∧ (0 : Int) = valI (ρ.z.rl 0) (0 : Int).toNat) ∧ (((ρ.z.rl 0).length - (0 : Int).toNat : Nat) < (ρ.z.rl 0).length + 1) from ?_)
  exact ⟨⟨rfl, rfl⟩, by omega⟩
def ivreadt1 (ρ : Rho) : Prop := firstP (stopP (ρ.z.rl 0)) (ρ.i .i64 1001).toNat = (ρ.i .i64 1001).toNat ∧ (ρ.i .u64 1000) = valI (ρ.z.rl 0) (ρ.i .i64 1001).toNat
theorem vcreadt1_0 : VC TTreadt invreadt msreadt 1 treadt1 wreadt1_0 := by
  intro ρ kn hi hp
  have hi : ivreadt1 ρ := hi
  unfold ivreadt1 at hi
  have hF : ρ.z.F = oct.Φ := kn.F
  simp only [h_nil, h_cons, d_le, d_eq, d_not, d_var, d_lit, d_cel, d_leq, d_fn, d_and, d_iff, IE.den, LE.den, AL.den, lenV, true_and, and_true, pcreadt1_0, hF, pi2, pi3, pi4, pi5, pi6, pi7, pl1, pi8, pi9, pl3] at hp
  obtain ⟨p1, p2, p3, p4⟩ := hp
  refine all_cons (show (ρ.z.F.l 3 [.lst (ρ.z.rl 0)]) = ([] : LV) from ?_) (all_cons (show (clampK .i64 (ρ.z.F.i 8 [.lst (ρ.z.rl 0)])) = (0 : Int) from ?_) (all_cons (show (clampK .i64 (ρ.z.F.i 9 [.lst (ρ.z.rl 0)])) = (110 : Int) from ?_) (all_nil)))
  all_goals try simp only [hF, pi2, pi3, pi4, pi5, pi6, pi7, pl1, pi8, pi9, pl3]
  all_goals
    have hT : Typed byteK (ρ.z.rl 0) := kn.rom 0 _ _ rfl
    have hcap := kn.cap 0 _ _ rfl
    have hlen := kn.ok.rl 0
    have hx := txtN_rng (ρ.z.rl 0)
    have cx : clampK .i64 (txtN (ρ.z.rl 0)) = txtN (ρ.z.rl 0) := i64_in (by omega) (by omega)
    obtain ⟨h1, h2⟩ := hi
    first
      | (have k := r_end (R := ρ.z.rl 0) (i := ρ.i .i64 1001) (by omega) (by omega) h1
         have t := tx_no (L := ρ.z.rl 0) (by rw [k.2.2]; decide)
         first | exact t.1 | (rw [t.2.1]; rfl) | (rw [t.2.2, k.2.2]; rfl))
      | (have k := r_bad (R := ρ.z.rl 0) (i := ρ.i .i64 1001) (by omega) (by omega) h1 (bad_t (by omega) (by omega))
         have t := tx_no (L := ρ.z.rl 0) (by rw [k.2.2]; decide)
         first | exact t.1 | (rw [t.2.1]; rfl) | (rw [t.2.2, k.2.2]; rfl))
      | (have hb := bad_f (R := ρ.z.rl 0) (i := ρ.i .i64 1001) (by omega) (by omega) (by omega)
         have k := r_ok (R := ρ.z.rl 0) (i := ρ.i .i64 1001) (by omega) (by omega) h1 hb (by omega)
         have v := read_v (R := ρ.z.rl 0) (i := ρ.i .i64 1001) (by omega) h1 hb
         have vr := (val_rng (ρ.z.rl 0) (ρ.i .i64 1001 + 1).toNat).1
         rw [← h2] at v
         try rw [v] at p1
         try rw [v] at p2
         try rw [v]
         first
           | (have t := tx_ok hT k.2.2 (by omega)
              first
                | (rw [t.1, k.1, k.2.1]; done)
                | (rw [t.1, k.1, show (valI (ρ.z.rl 0) (ρ.i .i64 1001 + 1).toNat).toNat = 0 by omega]; simp only [List.take_zero, Int.toNat_zero]; done)
                | (rw [cx, t.2.1, k.1, k.2.1]; omega)
                | (rw [t.2.2]; rfl))
           | (have t := tx_long k.2.2 (by omega)
              first | exact t.1 | (rw [t.2.1]; rfl) | (rw [t.2.2]; rfl)))
theorem vcreadt1_1 : VC TTreadt invreadt msreadt 1 treadt1 wreadt1_1 := by
  intro ρ kn hi hp
  have hi : ivreadt1 ρ := hi
  unfold ivreadt1 at hi
  have hF : ρ.z.F = oct.Φ := kn.F
  simp only [h_nil, h_cons, d_le, d_eq, d_not, d_var, d_lit, d_cel, d_leq, d_fn, d_and, d_iff, IE.den, LE.den, AL.den, lenV, true_and, and_true, pcreadt1_2, pcreadt1_1, pcreadt1_0, hF, pi2, pi3, pi4, pi5, pi6, pi7, pl1, pi8, pi9, pl3] at hp
  obtain ⟨p1, p2, p3, p4, p5, p6⟩ := hp
  refine (show (firstP (stopP (ρ.z.rl 0)) ((ρ.i .i64 1001) + (1 : Int)).toNat = ((ρ.i .i64 1001) + (1 : Int)).toNat ∧ (binI BinOp.or .u64 (ρ.i .u64 1000) (binI BinOp.shl .u64 (binI BinOp.and .u8 (clampK .u8 (intV (celV (ρ.z.rl 0) (ρ.i .i64 1001) 0))) (127 : Int)) ((7 : Int) * (ρ.i .i64 1001)))) = valI (ρ.z.rl 0) ((ρ.i .i64 1001) + (1 : Int)).toNat) ∧ (((ρ.z.rl 0).length - ((ρ.i .i64 1001) + (1 : Int)).toNat : Nat) < (ρ.z.rl 0).length - (ρ.i .i64 1001).toNat) from ?_)
  obtain ⟨h1, h2⟩ := hi
  rw [h2]
  have hb := bad_f (R := ρ.z.rl 0) (i := ρ.i .i64 1001) (by omega) (by omega) (by omega)
  exact ⟨⟨go_on (by omega) h1 hb (by assumption), read_v (by omega) h1 hb⟩, by omega⟩
theorem vcreadt1_2 : VC TTreadt invreadt msreadt 1 treadt1 wreadt1_2 := by
  intro ρ kn hi hp
  have hi : ivreadt1 ρ := hi
  unfold ivreadt1 at hi
  have hF : ρ.z.F = oct.Φ := kn.F
  simp only [h_nil, h_cons, d_le, d_eq, d_not, d_var, d_lit, d_cel, d_leq, d_fn, d_and, d_iff, IE.den, LE.den, AL.den, lenV, true_and, and_true, pcreadt1_6, pcreadt1_4, pcreadt1_2, pcreadt1_1, pcreadt1_0, hF, pi2, pi3, pi4, pi5, pi6, pi7, pl1, pi8, pi9, pl3] at hp
  obtain ⟨p1, p2, p3, p4, p5, p6, p7, p8⟩ := hp
  refine all_cons (show (ρ.z.F.l 3 [.lst (ρ.z.rl 0)]) = ((ρ.z.rl 0).take (binI BinOp.or .u64 (ρ.i .u64 1000) (binI BinOp.shl .u64 (binI BinOp.and .u8 (clampK .u8 (intV (celV (ρ.z.rl 0) (ρ.i .i64 1001) 0))) (127 : Int)) ((7 : Int) * (ρ.i .i64 1001)))).toNat) from ?_) (all_cons (show (clampK .i64 (ρ.z.F.i 8 [.lst (ρ.z.rl 0)])) = (((0 : Int) + ((ρ.i .i64 1001) + (1 : Int))) + (binI BinOp.or .u64 (ρ.i .u64 1000) (binI BinOp.shl .u64 (binI BinOp.and .u8 (clampK .u8 (intV (celV (ρ.z.rl 0) (ρ.i .i64 1001) 0))) (127 : Int)) ((7 : Int) * (ρ.i .i64 1001))))) from ?_) (all_cons (show (clampK .i64 (ρ.z.F.i 9 [.lst (ρ.z.rl 0)])) = (0 : Int) from ?_) (all_nil)))
  all_goals try simp only [hF, pi2, pi3, pi4, pi5, pi6, pi7, pl1, pi8, pi9, pl3]
  all_goals
    have hT : Typed byteK (ρ.z.rl 0) := kn.rom 0 _ _ rfl
    have hcap := kn.cap 0 _ _ rfl
    have hlen := kn.ok.rl 0
    have hx := txtN_rng (ρ.z.rl 0)
    have cx : clampK .i64 (txtN (ρ.z.rl 0)) = txtN (ρ.z.rl 0) := i64_in (by omega) (by omega)
    obtain ⟨h1, h2⟩ := hi
    first
      | (have k := r_end (R := ρ.z.rl 0) (i := ρ.i .i64 1001) (by omega) (by omega) h1
         have t := tx_no (L := ρ.z.rl 0) (by rw [k.2.2]; decide)
         first | exact t.1 | (rw [t.2.1]; rfl) | (rw [t.2.2, k.2.2]; rfl))
      | (have k := r_bad (R := ρ.z.rl 0) (i := ρ.i .i64 1001) (by omega) (by omega) h1 (bad_t (by omega) (by omega))
         have t := tx_no (L := ρ.z.rl 0) (by rw [k.2.2]; decide)
         first | exact t.1 | (rw [t.2.1]; rfl) | (rw [t.2.2, k.2.2]; rfl))
      | (have hb := bad_f (R := ρ.z.rl 0) (i := ρ.i .i64 1001) (by omega) (by omega) (by omega)
         have k := r_ok (R := ρ.z.rl 0) (i := ρ.i .i64 1001) (by omega) (by omega) h1 hb (by omega)
         have v := read_v (R := ρ.z.rl 0) (i := ρ.i .i64 1001) (by omega) h1 hb
         have vr := (val_rng (ρ.z.rl 0) (ρ.i .i64 1001 + 1).toNat).1
         rw [← h2] at v
         try rw [v] at p1
         try rw [v] at p2
         try rw [v]
         first
           | (have t := tx_ok hT k.2.2 (by omega)
              first
                | (rw [t.1, k.1, k.2.1]; done)
                | (rw [t.1, k.1, show (valI (ρ.z.rl 0) (ρ.i .i64 1001 + 1).toNat).toNat = 0 by omega]; simp only [List.take_zero, Int.toNat_zero]; done)
                | (rw [cx, t.2.1, k.1, k.2.1]; omega)
                | (rw [t.2.2]; rfl))
           | (have t := tx_long k.2.2 (by omega)
              first | exact t.1 | (rw [t.2.1]; rfl) | (rw [t.2.2]; rfl)))
theorem vcreadt1_3 : VC TTreadt invreadt msreadt 1 treadt1 wreadt1_3 := by
  intro ρ kn hi hp
  have hi : ivreadt1 ρ := hi
  unfold ivreadt1 at hi
  have hF : ρ.z.F = oct.Φ := kn.F
  simp only [h_nil, h_cons, d_le, d_eq, d_not, d_var, d_lit, d_cel, d_leq, d_fn, d_and, d_iff, IE.den, LE.den, AL.den, lenV, true_and, and_true, pcreadt1_6, pcreadt1_4, pcreadt1_2, pcreadt1_1, pcreadt1_0, hF, pi2, pi3, pi4, pi5, pi6, pi7, pl1, pi8, pi9, pl3] at hp
  obtain ⟨p1, p2, p3, p4, p5, p6, p7, p8⟩ := hp
  refine all_cons (show (ρ.z.F.l 3 [.lst (ρ.z.rl 0)]) = (((ρ.z.rl 0).drop ((ρ.i .i64 1001) + (1 : Int)).toNat).take (binI BinOp.or .u64 (ρ.i .u64 1000) (binI BinOp.shl .u64 (binI BinOp.and .u8 (clampK .u8 (intV (celV (ρ.z.rl 0) (ρ.i .i64 1001) 0))) (127 : Int)) ((7 : Int) * (ρ.i .i64 1001)))).toNat) from ?_) (all_cons (show (clampK .i64 (ρ.z.F.i 8 [.lst (ρ.z.rl 0)])) = (((0 : Int) + ((ρ.i .i64 1001) + (1 : Int))) + (binI BinOp.or .u64 (ρ.i .u64 1000) (binI BinOp.shl .u64 (binI BinOp.and .u8 (clampK .u8 (intV (celV (ρ.z.rl 0) (ρ.i .i64 1001) 0))) (127 : Int)) ((7 : Int) * (ρ.i .i64 1001))))) from ?_) (all_cons (show (clampK .i64 (ρ.z.F.i 9 [.lst (ρ.z.rl 0)])) = (0 : Int) from ?_) (all_nil)))
  all_goals try simp only [hF, pi2, pi3, pi4, pi5, pi6, pi7, pl1, pi8, pi9, pl3]
  all_goals
    have hT : Typed byteK (ρ.z.rl 0) := kn.rom 0 _ _ rfl
    have hcap := kn.cap 0 _ _ rfl
    have hlen := kn.ok.rl 0
    have hx := txtN_rng (ρ.z.rl 0)
    have cx : clampK .i64 (txtN (ρ.z.rl 0)) = txtN (ρ.z.rl 0) := i64_in (by omega) (by omega)
    obtain ⟨h1, h2⟩ := hi
    first
      | (have k := r_end (R := ρ.z.rl 0) (i := ρ.i .i64 1001) (by omega) (by omega) h1
         have t := tx_no (L := ρ.z.rl 0) (by rw [k.2.2]; decide)
         first | exact t.1 | (rw [t.2.1]; rfl) | (rw [t.2.2, k.2.2]; rfl))
      | (have k := r_bad (R := ρ.z.rl 0) (i := ρ.i .i64 1001) (by omega) (by omega) h1 (bad_t (by omega) (by omega))
         have t := tx_no (L := ρ.z.rl 0) (by rw [k.2.2]; decide)
         first | exact t.1 | (rw [t.2.1]; rfl) | (rw [t.2.2, k.2.2]; rfl))
      | (have hb := bad_f (R := ρ.z.rl 0) (i := ρ.i .i64 1001) (by omega) (by omega) (by omega)
         have k := r_ok (R := ρ.z.rl 0) (i := ρ.i .i64 1001) (by omega) (by omega) h1 hb (by omega)
         have v := read_v (R := ρ.z.rl 0) (i := ρ.i .i64 1001) (by omega) h1 hb
         have vr := (val_rng (ρ.z.rl 0) (ρ.i .i64 1001 + 1).toNat).1
         rw [← h2] at v
         try rw [v] at p1
         try rw [v] at p2
         try rw [v]
         first
           | (have t := tx_ok hT k.2.2 (by omega)
              first
                | (rw [t.1, k.1, k.2.1]; done)
                | (rw [t.1, k.1, show (valI (ρ.z.rl 0) (ρ.i .i64 1001 + 1).toNat).toNat = 0 by omega]; simp only [List.take_zero, Int.toNat_zero]; done)
                | (rw [cx, t.2.1, k.1, k.2.1]; omega)
                | (rw [t.2.2]; rfl))
           | (have t := tx_long k.2.2 (by omega)
              first | exact t.1 | (rw [t.2.1]; rfl) | (rw [t.2.2]; rfl)))
theorem vcreadt1_4 : VC TTreadt invreadt msreadt 1 treadt1 wreadt1_4 := by
  intro ρ kn hi hp
  have hi : ivreadt1 ρ := hi
  unfold ivreadt1 at hi
  have hF : ρ.z.F = oct.Φ := kn.F
  simp only [h_nil, h_cons, d_le, d_eq, d_not, d_var, d_lit, d_cel, d_leq, d_fn, d_and, d_iff, IE.den, LE.den, AL.den, lenV, true_and, and_true, pcreadt1_4, pcreadt1_2, pcreadt1_1, pcreadt1_0, hF, pi2, pi3, pi4, pi5, pi6, pi7, pl1, pi8, pi9, pl3] at hp
  obtain ⟨p1, p2, p3, p4, p5, p6, p7⟩ := hp
  refine all_cons (show (ρ.z.F.l 3 [.lst (ρ.z.rl 0)]) = ([] : LV) from ?_) (all_cons (show (clampK .i64 (ρ.z.F.i 8 [.lst (ρ.z.rl 0)])) = (0 : Int) from ?_) (all_cons (show (clampK .i64 (ρ.z.F.i 9 [.lst (ρ.z.rl 0)])) = (110 : Int) from ?_) (all_nil)))
  all_goals try simp only [hF, pi2, pi3, pi4, pi5, pi6, pi7, pl1, pi8, pi9, pl3]
  all_goals
    have hT : Typed byteK (ρ.z.rl 0) := kn.rom 0 _ _ rfl
    have hcap := kn.cap 0 _ _ rfl
    have hlen := kn.ok.rl 0
    have hx := txtN_rng (ρ.z.rl 0)
    have cx : clampK .i64 (txtN (ρ.z.rl 0)) = txtN (ρ.z.rl 0) := i64_in (by omega) (by omega)
    obtain ⟨h1, h2⟩ := hi
    first
      | (have k := r_end (R := ρ.z.rl 0) (i := ρ.i .i64 1001) (by omega) (by omega) h1
         have t := tx_no (L := ρ.z.rl 0) (by rw [k.2.2]; decide)
         first | exact t.1 | (rw [t.2.1]; rfl) | (rw [t.2.2, k.2.2]; rfl))
      | (have k := r_bad (R := ρ.z.rl 0) (i := ρ.i .i64 1001) (by omega) (by omega) h1 (bad_t (by omega) (by omega))
         have t := tx_no (L := ρ.z.rl 0) (by rw [k.2.2]; decide)
         first | exact t.1 | (rw [t.2.1]; rfl) | (rw [t.2.2, k.2.2]; rfl))
      | (have hb := bad_f (R := ρ.z.rl 0) (i := ρ.i .i64 1001) (by omega) (by omega) (by omega)
         have k := r_ok (R := ρ.z.rl 0) (i := ρ.i .i64 1001) (by omega) (by omega) h1 hb (by omega)
         have v := read_v (R := ρ.z.rl 0) (i := ρ.i .i64 1001) (by omega) h1 hb
         have vr := (val_rng (ρ.z.rl 0) (ρ.i .i64 1001 + 1).toNat).1
         rw [← h2] at v
         try rw [v] at p1
         try rw [v] at p2
         try rw [v]
         first
           | (have t := tx_ok hT k.2.2 (by omega)
              first
                | (rw [t.1, k.1, k.2.1]; done)
                | (rw [t.1, k.1, show (valI (ρ.z.rl 0) (ρ.i .i64 1001 + 1).toNat).toNat = 0 by omega]; simp only [List.take_zero, Int.toNat_zero]; done)
                | (rw [cx, t.2.1, k.1, k.2.1]; omega)
                | (rw [t.2.2]; rfl))
           | (have t := tx_long k.2.2 (by omega)
              first | exact t.1 | (rw [t.2.1]; rfl) | (rw [t.2.2]; rfl)))
theorem vcreadt1_5 : VC TTreadt invreadt msreadt 1 treadt1 wreadt1_5 := by
  intro ρ kn hi hp
  have hi : ivreadt1 ρ := hi
  unfold ivreadt1 at hi
  have hF : ρ.z.F = oct.Φ := kn.F
  simp only [h_nil, h_cons, d_le, d_eq, d_not, d_var, d_lit, d_cel, d_leq, d_fn, d_and, d_iff, IE.den, LE.den, AL.den, lenV, true_and, and_true, pcreadt1_3, pcreadt1_1, pcreadt1_0, hF, pi2, pi3, pi4, pi5, pi6, pi7, pl1, pi8, pi9, pl3] at hp
  obtain ⟨p1, p2, p3, p4, p5, p6⟩ := hp
  refine all_cons (show (ρ.z.F.l 3 [.lst (ρ.z.rl 0)]) = ([] : LV) from ?_) (all_cons (show (clampK .i64 (ρ.z.F.i 8 [.lst (ρ.z.rl 0)])) = (0 : Int) from ?_) (all_cons (show (clampK .i64 (ρ.z.F.i 9 [.lst (ρ.z.rl 0)])) = (111 : Int) from ?_) (all_nil)))
  all_goals try simp only [hF, pi2, pi3, pi4, pi5, pi6, pi7, pl1, pi8, pi9, pl3]
  all_goals
    have hT : Typed byteK (ρ.z.rl 0) := kn.rom 0 _ _ rfl
    have hcap := kn.cap 0 _ _ rfl
    have hlen := kn.ok.rl 0
    have hx := txtN_rng (ρ.z.rl 0)
    have cx : clampK .i64 (txtN (ρ.z.rl 0)) = txtN (ρ.z.rl 0) := i64_in (by omega) (by omega)
    obtain ⟨h1, h2⟩ := hi
    first
      | (have k := r_end (R := ρ.z.rl 0) (i := ρ.i .i64 1001) (by omega) (by omega) h1
         have t := tx_no (L := ρ.z.rl 0) (by rw [k.2.2]; decide)
         first | exact t.1 | (rw [t.2.1]; rfl) | (rw [t.2.2, k.2.2]; rfl))
      | (have k := r_bad (R := ρ.z.rl 0) (i := ρ.i .i64 1001) (by omega) (by omega) h1 (bad_t (by omega) (by omega))
         have t := tx_no (L := ρ.z.rl 0) (by rw [k.2.2]; decide)
         first | exact t.1 | (rw [t.2.1]; rfl) | (rw [t.2.2, k.2.2]; rfl))
      | (have hb := bad_f (R := ρ.z.rl 0) (i := ρ.i .i64 1001) (by omega) (by omega) (by omega)
         have k := r_ok (R := ρ.z.rl 0) (i := ρ.i .i64 1001) (by omega) (by omega) h1 hb (by omega)
         have v := read_v (R := ρ.z.rl 0) (i := ρ.i .i64 1001) (by omega) h1 hb
         have vr := (val_rng (ρ.z.rl 0) (ρ.i .i64 1001 + 1).toNat).1
         rw [← h2] at v
         try rw [v] at p1
         try rw [v] at p2
         try rw [v]
         first
           | (have t := tx_ok hT k.2.2 (by omega)
              first
                | (rw [t.1, k.1, k.2.1]; done)
                | (rw [t.1, k.1, show (valI (ρ.z.rl 0) (ρ.i .i64 1001 + 1).toNat).toNat = 0 by omega]; simp only [List.take_zero, Int.toNat_zero]; done)
                | (rw [cx, t.2.1, k.1, k.2.1]; omega)
                | (rw [t.2.2]; rfl))
           | (have t := tx_long k.2.2 (by omega)
              first | exact t.1 | (rw [t.2.1]; rfl) | (rw [t.2.2]; rfl)))
theorem vcreadt1_6 : VC TTreadt invreadt msreadt 1 treadt1 wreadt1_6 := by
  intro ρ kn hi hp
  have hi : ivreadt1 ρ := hi
  unfold ivreadt1 at hi
  have hF : ρ.z.F = oct.Φ := kn.F
  simp only [h_nil, h_cons, d_le, d_eq, d_not, d_var, d_lit, d_cel, d_leq, d_fn, d_and, d_iff, IE.den, LE.den, AL.den, lenV, true_and, and_true, pcreadt1_11, pcreadt1_9, pcreadt1_7, pcreadt1_5, pcreadt1_3, pcreadt1_1, pcreadt1_0, hF, pi2, pi3, pi4, pi5, pi6, pi7, pl1, pi8, pi9, pl3] at hp
  obtain ⟨p1, p2, p3, p4, p5, p6, p7, p8, p9, p10⟩ := hp
  refine all_cons (show (ρ.z.F.l 3 [.lst (ρ.z.rl 0)]) = ((ρ.z.rl 0).take (binI BinOp.or .u64 (ρ.i .u64 1000) (binI BinOp.shl .u64 (binI BinOp.and .u8 (clampK .u8 (intV (celV (ρ.z.rl 0) (ρ.i .i64 1001) 0))) (127 : Int)) ((7 : Int) * (ρ.i .i64 1001)))).toNat) from ?_) (all_cons (show (clampK .i64 (ρ.z.F.i 8 [.lst (ρ.z.rl 0)])) = (((0 : Int) + ((ρ.i .i64 1001) + (1 : Int))) + (binI BinOp.or .u64 (ρ.i .u64 1000) (binI BinOp.shl .u64 (binI BinOp.and .u8 (clampK .u8 (intV (celV (ρ.z.rl 0) (ρ.i .i64 1001) 0))) (127 : Int)) ((7 : Int) * (ρ.i .i64 1001))))) from ?_) (all_cons (show (clampK .i64 (ρ.z.F.i 9 [.lst (ρ.z.rl 0)])) = (0 : Int) from ?_) (all_nil)))
  all_goals try simp only [hF, pi2, pi3, pi4, pi5, pi6, pi7, pl1, pi8, pi9, pl3]
  all_goals
    have hT : Typed byteK (ρ.z.rl 0) := kn.rom 0 _ _ rfl
    have hcap := kn.cap 0 _ _ rfl
    have hlen := kn.ok.rl 0
    have hx := txtN_rng (ρ.z.rl 0)
    have cx : clampK .i64 (txtN (ρ.z.rl 0)) = txtN (ρ.z.rl 0) := i64_in (by omega) (by omega)
    obtain ⟨h1, h2⟩ := hi
    first
      | (have k := r_end (R := ρ.z.rl 0) (i := ρ.i .i64 1001) (by omega) (by omega) h1
         have t := tx_no (L := ρ.z.rl 0) (by rw [k.2.2]; decide)
         first | exact t.1 | (rw [t.2.1]; rfl) | (rw [t.2.2, k.2.2]; rfl))
      | (have k := r_bad (R := ρ.z.rl 0) (i := ρ.i .i64 1001) (by omega) (by omega) h1 (bad_t (by omega) (by omega))
         have t := tx_no (L := ρ.z.rl 0) (by rw [k.2.2]; decide)
         first | exact t.1 | (rw [t.2.1]; rfl) | (rw [t.2.2, k.2.2]; rfl))
      | (have hb := bad_f (R := ρ.z.rl 0) (i := ρ.i .i64 1001) (by omega) (by omega) (by omega)
         have k := r_ok (R := ρ.z.rl 0) (i := ρ.i .i64 1001) (by omega) (by omega) h1 hb (by omega)
         have v := read_v (R := ρ.z.rl 0) (i := ρ.i .i64 1001) (by omega) h1 hb
         have vr := (val_rng (ρ.z.rl 0) (ρ.i .i64 1001 + 1).toNat).1
         rw [← h2] at v
         try rw [v] at p1
         try rw [v] at p2
         try rw [v]
         first
           | (have t := tx_ok hT k.2.2 (by omega)
              first
                | (rw [t.1, k.1, k.2.1]; done)
                | (rw [t.1, k.1, show (valI (ρ.z.rl 0) (ρ.i .i64 1001 + 1).toNat).toNat = 0 by omega]; simp only [List.take_zero, Int.toNat_zero]; done)
                | (rw [cx, t.2.1, k.1, k.2.1]; omega)
                | (rw [t.2.2]; rfl))
           | (have t := tx_long k.2.2 (by omega)
              first | exact t.1 | (rw [t.2.1]; rfl) | (rw [t.2.2]; rfl)))
theorem vcreadt1_7 : VC TTreadt invreadt msreadt 1 treadt1 wreadt1_7 := by
  intro ρ kn hi hp
  have hi : ivreadt1 ρ := hi
  unfold ivreadt1 at hi
  have hF : ρ.z.F = oct.Φ := kn.F
  simp only [h_nil, h_cons, d_le, d_eq, d_not, d_var, d_lit, d_cel, d_leq, d_fn, d_and, d_iff, IE.den, LE.den, AL.den, lenV, true_and, and_true, pcreadt1_11, pcreadt1_9, pcreadt1_7, pcreadt1_5, pcreadt1_3, pcreadt1_1, pcreadt1_0, hF, pi2, pi3, pi4, pi5, pi6, pi7, pl1, pi8, pi9, pl3] at hp
  obtain ⟨p1, p2, p3, p4, p5, p6, p7, p8, p9, p10⟩ := hp
  refine all_cons (show (ρ.z.F.l 3 [.lst (ρ.z.rl 0)]) = (((ρ.z.rl 0).drop ((ρ.i .i64 1001) + (1 : Int)).toNat).take (binI BinOp.or .u64 (ρ.i .u64 1000) (binI BinOp.shl .u64 (binI BinOp.and .u8 (clampK .u8 (intV (celV (ρ.z.rl 0) (ρ.i .i64 1001) 0))) (127 : Int)) ((7 : Int) * (ρ.i .i64 1001)))).toNat) from ?_) (all_cons (show (clampK .i64 (ρ.z.F.i 8 [.lst (ρ.z.rl 0)])) = (((0 : Int) + ((ρ.i .i64 1001) + (1 : Int))) + (binI BinOp.or .u64 (ρ.i .u64 1000) (binI BinOp.shl .u64 (binI BinOp.and .u8 (clampK .u8 (intV (celV (ρ.z.rl 0) (ρ.i .i64 1001) 0))) (127 : Int)) ((7 : Int) * (ρ.i .i64 1001))))) from ?_) (all_cons (show (clampK .i64 (ρ.z.F.i 9 [.lst (ρ.z.rl 0)])) = (0 : Int) from ?_) (all_nil)))
  all_goals try simp only [hF, pi2, pi3, pi4, pi5, pi6, pi7, pl1, pi8, pi9, pl3]
  all_goals
    have hT : Typed byteK (ρ.z.rl 0) := kn.rom 0 _ _ rfl
    have hcap := kn.cap 0 _ _ rfl
    have hlen := kn.ok.rl 0
    have hx := txtN_rng (ρ.z.rl 0)
    have cx : clampK .i64 (txtN (ρ.z.rl 0)) = txtN (ρ.z.rl 0) := i64_in (by omega) (by omega)
    obtain ⟨h1, h2⟩ := hi
    first
      | (have k := r_end (R := ρ.z.rl 0) (i := ρ.i .i64 1001) (by omega) (by omega) h1
         have t := tx_no (L := ρ.z.rl 0) (by rw [k.2.2]; decide)
         first | exact t.1 | (rw [t.2.1]; rfl) | (rw [t.2.2, k.2.2]; rfl))
      | (have k := r_bad (R := ρ.z.rl 0) (i := ρ.i .i64 1001) (by omega) (by omega) h1 (bad_t (by omega) (by omega))
         have t := tx_no (L := ρ.z.rl 0) (by rw [k.2.2]; decide)
         first | exact t.1 | (rw [t.2.1]; rfl) | (rw [t.2.2, k.2.2]; rfl))
      | (have hb := bad_f (R := ρ.z.rl 0) (i := ρ.i .i64 1001) (by omega) (by omega) (by omega)
         have k := r_ok (R := ρ.z.rl 0) (i := ρ.i .i64 1001) (by omega) (by omega) h1 hb (by omega)
         have v := read_v (R := ρ.z.rl 0) (i := ρ.i .i64 1001) (by omega) h1 hb
         have vr := (val_rng (ρ.z.rl 0) (ρ.i .i64 1001 + 1).toNat).1
         rw [← h2] at v
         try rw [v] at p1
         try rw [v] at p2
         try rw [v]
         first
           | (have t := tx_ok hT k.2.2 (by omega)
              first
                | (rw [t.1, k.1, k.2.1]; done)
                | (rw [t.1, k.1, show (valI (ρ.z.rl 0) (ρ.i .i64 1001 + 1).toNat).toNat = 0 by omega]; simp only [List.take_zero, Int.toNat_zero]; done)
                | (rw [cx, t.2.1, k.1, k.2.1]; omega)
                | (rw [t.2.2]; rfl))
           | (have t := tx_long k.2.2 (by omega)
              first | exact t.1 | (rw [t.2.1]; rfl) | (rw [t.2.2]; rfl)))
theorem vcreadt1_8 : VC TTreadt invreadt msreadt 1 treadt1 wreadt1_8 := by
  intro ρ kn hi hp
  have hi : ivreadt1 ρ := hi
  unfold ivreadt1 at hi
  have hF : ρ.z.F = oct.Φ := kn.F
  simp only [h_nil, h_cons, d_le, d_eq, d_not, d_var, d_lit, d_cel, d_leq, d_fn, d_and, d_iff, IE.den, LE.den, AL.den, lenV, true_and, and_true, pcreadt1_9, pcreadt1_7, pcreadt1_5, pcreadt1_3, pcreadt1_1, pcreadt1_0, hF, pi2, pi3, pi4, pi5, pi6, pi7, pl1, pi8, pi9, pl3] at hp
  obtain ⟨p1, p2, p3, p4, p5, p6, p7, p8, p9⟩ := hp
  refine all_cons (show (ρ.z.F.l 3 [.lst (ρ.z.rl 0)]) = ([] : LV) from ?_) (all_cons (show (clampK .i64 (ρ.z.F.i 8 [.lst (ρ.z.rl 0)])) = (0 : Int) from ?_) (all_cons (show (clampK .i64 (ρ.z.F.i 9 [.lst (ρ.z.rl 0)])) = (110 : Int) from ?_) (all_nil)))
  all_goals try simp only [hF, pi2, pi3, pi4, pi5, pi6, pi7, pl1, pi8, pi9, pl3]
  all_goals
    have hT : Typed byteK (ρ.z.rl 0) := kn.rom 0 _ _ rfl
    have hcap := kn.cap 0 _ _ rfl
    have hlen := kn.ok.rl 0
    have hx := txtN_rng (ρ.z.rl 0)
    have cx : clampK .i64 (txtN (ρ.z.rl 0)) = txtN (ρ.z.rl 0) := i64_in (by omega) (by omega)
    obtain ⟨h1, h2⟩ := hi
    first
      | (have k := r_end (R := ρ.z.rl 0) (i := ρ.i .i64 1001) (by omega) (by omega) h1
         have t := tx_no (L := ρ.z.rl 0) (by rw [k.2.2]; decide)
         first | exact t.1 | (rw [t.2.1]; rfl) | (rw [t.2.2, k.2.2]; rfl))
      | (have k := r_bad (R := ρ.z.rl 0) (i := ρ.i .i64 1001) (by omega) (by omega) h1 (bad_t (by omega) (by omega))
         have t := tx_no (L := ρ.z.rl 0) (by rw [k.2.2]; decide)
         first | exact t.1 | (rw [t.2.1]; rfl) | (rw [t.2.2, k.2.2]; rfl))
      | (have hb := bad_f (R := ρ.z.rl 0) (i := ρ.i .i64 1001) (by omega) (by omega) (by omega)
         have k := r_ok (R := ρ.z.rl 0) (i := ρ.i .i64 1001) (by omega) (by omega) h1 hb (by omega)
         have v := read_v (R := ρ.z.rl 0) (i := ρ.i .i64 1001) (by omega) h1 hb
         have vr := (val_rng (ρ.z.rl 0) (ρ.i .i64 1001 + 1).toNat).1
         rw [← h2] at v
         try rw [v] at p1
         try rw [v] at p2
         try rw [v]
         first
           | (have t := tx_ok hT k.2.2 (by omega)
              first
                | (rw [t.1, k.1, k.2.1]; done)
                | (rw [t.1, k.1, show (valI (ρ.z.rl 0) (ρ.i .i64 1001 + 1).toNat).toNat = 0 by omega]; simp only [List.take_zero, Int.toNat_zero]; done)
                | (rw [cx, t.2.1, k.1, k.2.1]; omega)
                | (rw [t.2.2]; rfl))
           | (have t := tx_long k.2.2 (by omega)
              first | exact t.1 | (rw [t.2.1]; rfl) | (rw [t.2.2]; rfl)))
theorem vcreadt1_9 : VC TTreadt invreadt msreadt 1 treadt1 wreadt1_9 := by
  intro ρ kn hi hp
  have hi : ivreadt1 ρ := hi
  unfold ivreadt1 at hi
  have hF : ρ.z.F = oct.Φ := kn.F
  simp only [h_nil, h_cons, d_le, d_eq, d_not, d_var, d_lit, d_cel, d_leq, d_fn, d_and, d_iff, IE.den, LE.den, AL.den, lenV, true_and, and_true, pcreadt1_7, pcreadt1_5, pcreadt1_3, pcreadt1_1, pcreadt1_0, hF, pi2, pi3, pi4, pi5, pi6, pi7, pl1, pi8, pi9, pl3] at hp
  obtain ⟨p1, p2, p3, p4, p5, p6, p7, p8⟩ := hp
  refine all_cons (show (ρ.z.F.l 3 [.lst (ρ.z.rl 0)]) = ([] : LV) from ?_) (all_cons (show (clampK .i64 (ρ.z.F.i 8 [.lst (ρ.z.rl 0)])) = (0 : Int) from ?_) (all_cons (show (clampK .i64 (ρ.z.F.i 9 [.lst (ρ.z.rl 0)])) = (111 : Int) from ?_) (all_nil)))
  all_goals try simp only [hF, pi2, pi3, pi4, pi5, pi6, pi7, pl1, pi8, pi9, pl3]
  all_goals
    have hT : Typed byteK (ρ.z.rl 0) := kn.rom 0 _ _ rfl
    have hcap := kn.cap 0 _ _ rfl
    have hlen := kn.ok.rl 0
    have hx := txtN_rng (ρ.z.rl 0)
    have cx : clampK .i64 (txtN (ρ.z.rl 0)) = txtN (ρ.z.rl 0) := i64_in (by omega) (by omega)
    obtain ⟨h1, h2⟩ := hi
    first
      | (have k := r_end (R := ρ.z.rl 0) (i := ρ.i .i64 1001) (by omega) (by omega) h1
         have t := tx_no (L := ρ.z.rl 0) (by rw [k.2.2]; decide)
         first | exact t.1 | (rw [t.2.1]; rfl) | (rw [t.2.2, k.2.2]; rfl))
      | (have k := r_bad (R := ρ.z.rl 0) (i := ρ.i .i64 1001) (by omega) (by omega) h1 (bad_t (by omega) (by omega))
         have t := tx_no (L := ρ.z.rl 0) (by rw [k.2.2]; decide)
         first | exact t.1 | (rw [t.2.1]; rfl) | (rw [t.2.2, k.2.2]; rfl))
      | (have hb := bad_f (R := ρ.z.rl 0) (i := ρ.i .i64 1001) (by omega) (by omega) (by omega)
         have k := r_ok (R := ρ.z.rl 0) (i := ρ.i .i64 1001) (by omega) (by omega) h1 hb (by omega)
         have v := read_v (R := ρ.z.rl 0) (i := ρ.i .i64 1001) (by omega) h1 hb
         have vr := (val_rng (ρ.z.rl 0) (ρ.i .i64 1001 + 1).toNat).1
         rw [← h2] at v
         try rw [v] at p1
         try rw [v] at p2
         try rw [v]
         first
           | (have t := tx_ok hT k.2.2 (by omega)
              first
                | (rw [t.1, k.1, k.2.1]; done)
                | (rw [t.1, k.1, show (valI (ρ.z.rl 0) (ρ.i .i64 1001 + 1).toNat).toNat = 0 by omega]; simp only [List.take_zero, Int.toNat_zero]; done)
                | (rw [cx, t.2.1, k.1, k.2.1]; omega)
                | (rw [t.2.2]; rfl))
           | (have t := tx_long k.2.2 (by omega)
              first | exact t.1 | (rw [t.2.1]; rfl) | (rw [t.2.2]; rfl)))
theorem vcreadt1_10 : VC TTreadt invreadt msreadt 1 treadt1 wreadt1_10 := by
  intro ρ kn hi hp
  have hi : ivreadt1 ρ := hi
  unfold ivreadt1 at hi
  have hF : ρ.z.F = oct.Φ := kn.F
  simp only [h_nil, h_cons, d_le, d_eq, d_not, d_var, d_lit, d_cel, d_leq, d_fn, d_and, d_iff, IE.den, LE.den, AL.den, lenV, true_and, and_true, pcreadt1_8, pcreadt1_5, pcreadt1_3, pcreadt1_1, pcreadt1_0, hF, pi2, pi3, pi4, pi5, pi6, pi7, pl1, pi8, pi9, pl3] at hp
  obtain ⟨p1, p2, p3, p4, p5, p6, p7, p8⟩ := hp
  refine (show (firstP (stopP (ρ.z.rl 0)) ((ρ.i .i64 1001) + (1 : Int)).toNat = ((ρ.i .i64 1001) + (1 : Int)).toNat ∧ (binI BinOp.or .u64 (ρ.i .u64 1000) (binI BinOp.shl .u64 (binI BinOp.and .u8 (clampK .u8 (intV (celV (ρ.z.rl 0) (ρ.i .i64 1001) 0))) (127 : Int)) ((7 : Int) * (ρ.i .i64 1001)))) = valI (ρ.z.rl 0) ((ρ.i .i64 1001) + (1 : Int)).toNat) ∧ (((ρ.z.rl 0).length - ((ρ.i .i64 1001) + (1 : Int)).toNat : Nat) < (ρ.z.rl 0).length - (ρ.i .i64 1001).toNat) from ?_)
  obtain ⟨h1, h2⟩ := hi
  rw [h2]
  have hb := bad_f (R := ρ.z.rl 0) (i := ρ.i .i64 1001) (by omega) (by omega) (by omega)
  exact ⟨⟨go_on (by omega) h1 hb (by assumption), read_v (by omega) h1 hb⟩, by omega⟩
theorem vcreadt1_11 : VC TTreadt invreadt msreadt 1 treadt1 wreadt1_11 := by
  intro ρ kn hi hp
  have hi : ivreadt1 ρ := hi
  unfold ivreadt1 at hi
  have hF : ρ.z.F = oct.Φ := kn.F
  simp only [h_nil, h_cons, d_le, d_eq, d_not, d_var, d_lit, d_cel, d_leq, d_fn, d_and, d_iff, IE.den, LE.den, AL.den, lenV, true_and, and_true, pcreadt1_12, pcreadt1_10, pcreadt1_8, pcreadt1_5, pcreadt1_3, pcreadt1_1, pcreadt1_0, hF, pi2, pi3, pi4, pi5, pi6, pi7, pl1, pi8, pi9, pl3] at hp
  obtain ⟨p1, p2, p3, p4, p5, p6, p7, p8, p9, p10⟩ := hp
  refine all_cons (show (ρ.z.F.l 3 [.lst (ρ.z.rl 0)]) = ((ρ.z.rl 0).take (binI BinOp.or .u64 (ρ.i .u64 1000) (binI BinOp.shl .u64 (binI BinOp.and .u8 (clampK .u8 (intV (celV (ρ.z.rl 0) (ρ.i .i64 1001) 0))) (127 : Int)) ((7 : Int) * (ρ.i .i64 1001)))).toNat) from ?_) (all_cons (show (clampK .i64 (ρ.z.F.i 8 [.lst (ρ.z.rl 0)])) = (((0 : Int) + ((ρ.i .i64 1001) + (1 : Int))) + (binI BinOp.or .u64 (ρ.i .u64 1000) (binI BinOp.shl .u64 (binI BinOp.and .u8 (clampK .u8 (intV (celV (ρ.z.rl 0) (ρ.i .i64 1001) 0))) (127 : Int)) ((7 : Int) * (ρ.i .i64 1001))))) from ?_) (all_cons (show (clampK .i64 (ρ.z.F.i 9 [.lst (ρ.z.rl 0)])) = (0 : Int) from ?_) (all_nil)))
  all_goals try simp only [hF, pi2, pi3, pi4, pi5, pi6, pi7, pl1, pi8, pi9, pl3]
  all_goals
    have hT : Typed byteK (ρ.z.rl 0) := kn.rom 0 _ _ rfl
    have hcap := kn.cap 0 _ _ rfl
    have hlen := kn.ok.rl 0
    have hx := txtN_rng (ρ.z.rl 0)
    have cx : clampK .i64 (txtN (ρ.z.rl 0)) = txtN (ρ.z.rl 0) := i64_in (by omega) (by omega)
    obtain ⟨h1, h2⟩ := hi
    first
      | (have k := r_end (R := ρ.z.rl 0) (i := ρ.i .i64 1001) (by omega) (by omega) h1
         have t := tx_no (L := ρ.z.rl 0) (by rw [k.2.2]; decide)
         first | exact t.1 | (rw [t.2.1]; rfl) | (rw [t.2.2, k.2.2]; rfl))
      | (have k := r_bad (R := ρ.z.rl 0) (i := ρ.i .i64 1001) (by omega) (by omega) h1 (bad_t (by omega) (by omega))
         have t := tx_no (L := ρ.z.rl 0) (by rw [k.2.2]; decide)
         first | exact t.1 | (rw [t.2.1]; rfl) | (rw [t.2.2, k.2.2]; rfl))
      | (have hb := bad_f (R := ρ.z.rl 0) (i := ρ.i .i64 1001) (by omega) (by omega) (by omega)
         have k := r_ok (R := ρ.z.rl 0) (i := ρ.i .i64 1001) (by omega) (by omega) h1 hb (by omega)
         have v := read_v (R := ρ.z.rl 0) (i := ρ.i .i64 1001) (by omega) h1 hb
         have vr := (val_rng (ρ.z.rl 0) (ρ.i .i64 1001 + 1).toNat).1
         rw [← h2] at v
         try rw [v] at p1
         try rw [v] at p2
         try rw [v]
         first
           | (have t := tx_ok hT k.2.2 (by omega)
              first
                | (rw [t.1, k.1, k.2.1]; done)
                | (rw [t.1, k.1, show (valI (ρ.z.rl 0) (ρ.i .i64 1001 + 1).toNat).toNat = 0 by omega]; simp only [List.take_zero, Int.toNat_zero]; done)
                | (rw [cx, t.2.1, k.1, k.2.1]; omega)
                | (rw [t.2.2]; rfl))
           | (have t := tx_long k.2.2 (by omega)
              first | exact t.1 | (rw [t.2.1]; rfl) | (rw [t.2.2]; rfl)))
theorem vcreadt1_12 : VC TTreadt invreadt msreadt 1 treadt1 wreadt1_12 := by
  intro ρ kn hi hp
  have hi : ivreadt1 ρ := hi
  unfold ivreadt1 at hi
  have hF : ρ.z.F = oct.Φ := kn.F
  simp only [h_nil, h_cons, d_le, d_eq, d_not, d_var, d_lit, d_cel, d_leq, d_fn, d_and, d_iff, IE.den, LE.den, AL.den, lenV, true_and, and_true, pcreadt1_12, pcreadt1_10, pcreadt1_8, pcreadt1_5, pcreadt1_3, pcreadt1_1, pcreadt1_0, hF, pi2, pi3, pi4, pi5, pi6, pi7, pl1, pi8, pi9, pl3] at hp
  obtain ⟨p1, p2, p3, p4, p5, p6, p7, p8, p9, p10⟩ := hp
  refine all_cons (show (ρ.z.F.l 3 [.lst (ρ.z.rl 0)]) = (((ρ.z.rl 0).drop ((ρ.i .i64 1001) + (1 : Int)).toNat).take (binI BinOp.or .u64 (ρ.i .u64 1000) (binI BinOp.shl .u64 (binI BinOp.and .u8 (clampK .u8 (intV (celV (ρ.z.rl 0) (ρ.i .i64 1001) 0))) (127 : Int)) ((7 : Int) * (ρ.i .i64 1001)))).toNat) from ?_) (all_cons (show (clampK .i64 (ρ.z.F.i 8 [.lst (ρ.z.rl 0)])) = (((0 : Int) + ((ρ.i .i64 1001) + (1 : Int))) + (binI BinOp.or .u64 (ρ.i .u64 1000) (binI BinOp.shl .u64 (binI BinOp.and .u8 (clampK .u8 (intV (celV (ρ.z.rl 0) (ρ.i .i64 1001) 0))) (127 : Int)) ((7 : Int) * (ρ.i .i64 1001))))) from ?_) (all_cons (show (clampK .i64 (ρ.z.F.i 9 [.lst (ρ.z.rl 0)])) = (0 : Int) from ?_) (all_nil)))
  all_goals try simp only [hF, pi2, pi3, pi4, pi5, pi6, pi7, pl1, pi8, pi9, pl3]
  all_goals
    have hT : Typed byteK (ρ.z.rl 0) := kn.rom 0 _ _ rfl
    have hcap := kn.cap 0 _ _ rfl
    have hlen := kn.ok.rl 0
    have hx := txtN_rng (ρ.z.rl 0)
    have cx : clampK .i64 (txtN (ρ.z.rl 0)) = txtN (ρ.z.rl 0) := i64_in (by omega) (by omega)
    obtain ⟨h1, h2⟩ := hi
    first
      | (have k := r_end (R := ρ.z.rl 0) (i := ρ.i .i64 1001) (by omega) (by omega) h1
         have t := tx_no (L := ρ.z.rl 0) (by rw [k.2.2]; decide)
         first | exact t.1 | (rw [t.2.1]; rfl) | (rw [t.2.2, k.2.2]; rfl))
      | (have k := r_bad (R := ρ.z.rl 0) (i := ρ.i .i64 1001) (by omega) (by omega) h1 (bad_t (by omega) (by omega))
         have t := tx_no (L := ρ.z.rl 0) (by rw [k.2.2]; decide)
         first | exact t.1 | (rw [t.2.1]; rfl) | (rw [t.2.2, k.2.2]; rfl))
      | (have hb := bad_f (R := ρ.z.rl 0) (i := ρ.i .i64 1001) (by omega) (by omega) (by omega)
         have k := r_ok (R := ρ.z.rl 0) (i := ρ.i .i64 1001) (by omega) (by omega) h1 hb (by omega)
         have v := read_v (R := ρ.z.rl 0) (i := ρ.i .i64 1001) (by omega) h1 hb
         have vr := (val_rng (ρ.z.rl 0) (ρ.i .i64 1001 + 1).toNat).1
         rw [← h2] at v
         try rw [v] at p1
         try rw [v] at p2
         try rw [v]
         first
           | (have t := tx_ok hT k.2.2 (by omega)
              first
                | (rw [t.1, k.1, k.2.1]; done)
                | (rw [t.1, k.1, show (valI (ρ.z.rl 0) (ρ.i .i64 1001 + 1).toNat).toNat = 0 by omega]; simp only [List.take_zero, Int.toNat_zero]; done)
                | (rw [cx, t.2.1, k.1, k.2.1]; omega)
                | (rw [t.2.2]; rfl))
           | (have t := tx_long k.2.2 (by omega)
              first | exact t.1 | (rw [t.2.1]; rfl) | (rw [t.2.2]; rfl)))
theorem vcreadt1_13 : VC TTreadt invreadt msreadt 1 treadt1 wreadt1_13 := by
  intro ρ kn hi hp
  have hi : ivreadt1 ρ := hi
  unfold ivreadt1 at hi
  have hF : ρ.z.F = oct.Φ := kn.F
  simp only [h_nil, h_cons, d_le, d_eq, d_not, d_var, d_lit, d_cel, d_leq, d_fn, d_and, d_iff, IE.den, LE.den, AL.den, lenV, true_and, and_true, pcreadt1_10, pcreadt1_8, pcreadt1_5, pcreadt1_3, pcreadt1_1, pcreadt1_0, hF, pi2, pi3, pi4, pi5, pi6, pi7, pl1, pi8, pi9, pl3] at hp
  obtain ⟨p1, p2, p3, p4, p5, p6, p7, p8, p9⟩ := hp
  refine all_cons (show (ρ.z.F.l 3 [.lst (ρ.z.rl 0)]) = ([] : LV) from ?_) (all_cons (show (clampK .i64 (ρ.z.F.i 8 [.lst (ρ.z.rl 0)])) = (0 : Int) from ?_) (all_cons (show (clampK .i64 (ρ.z.F.i 9 [.lst (ρ.z.rl 0)])) = (110 : Int) from ?_) (all_nil)))
  all_goals try simp only [hF, pi2, pi3, pi4, pi5, pi6, pi7, pl1, pi8, pi9, pl3]
  all_goals
    have hT : Typed byteK (ρ.z.rl 0) := kn.rom 0 _ _ rfl
    have hcap := kn.cap 0 _ _ rfl
    have hlen := kn.ok.rl 0
    have hx := txtN_rng (ρ.z.rl 0)
    have cx : clampK .i64 (txtN (ρ.z.rl 0)) = txtN (ρ.z.rl 0) := i64_in (by omega) (by omega)
    obtain ⟨h1, h2⟩ := hi
    first
      | (have k := r_end (R := ρ.z.rl 0) (i := ρ.i .i64 1001) (by omega) (by omega) h1
         have t := tx_no (L := ρ.z.rl 0) (by rw [k.2.2]; decide)
         first | exact t.1 | (rw [t.2.1]; rfl) | (rw [t.2.2, k.2.2]; rfl))
      | (have k := r_bad (R := ρ.z.rl 0) (i := ρ.i .i64 1001) (by omega) (by omega) h1 (bad_t (by omega) (by omega))
         have t := tx_no (L := ρ.z.rl 0) (by rw [k.2.2]; decide)
         first | exact t.1 | (rw [t.2.1]; rfl) | (rw [t.2.2, k.2.2]; rfl))
      | (have hb := bad_f (R := ρ.z.rl 0) (i := ρ.i .i64 1001) (by omega) (by omega) (by omega)
         have k := r_ok (R := ρ.z.rl 0) (i := ρ.i .i64 1001) (by omega) (by omega) h1 hb (by omega)
         have v := read_v (R := ρ.z.rl 0) (i := ρ.i .i64 1001) (by omega) h1 hb
         have vr := (val_rng (ρ.z.rl 0) (ρ.i .i64 1001 + 1).toNat).1
         rw [← h2] at v
         try rw [v] at p1
         try rw [v] at p2
         try rw [v]
         first
           | (have t := tx_ok hT k.2.2 (by omega)
              first
                | (rw [t.1, k.1, k.2.1]; done)
                | (rw [t.1, k.1, show (valI (ρ.z.rl 0) (ρ.i .i64 1001 + 1).toNat).toNat = 0 by omega]; simp only [List.take_zero, Int.toNat_zero]; done)
                | (rw [cx, t.2.1, k.1, k.2.1]; omega)
                | (rw [t.2.2]; rfl))
           | (have t := tx_long k.2.2 (by omega)
              first | exact t.1 | (rw [t.2.1]; rfl) | (rw [t.2.2]; rfl)))
theorem vcsreadt0 : ∀ v ∈ vwreadt 0, VC TTreadt invreadt msreadt 0 (startF 26 cReadT.pat [.lit true]) v := all_cons vcreadt0_0 (all_nil)
theorem okreadt0 : cfgOk (startF 26 cReadT.pat [.lit true]) = true := by kernel_rfl
theorem sgreadt0 : segL cReadT.roms cReadT (seg TTreadt selreadt 1500 tmreadt (startF 26 cReadT.pat [.lit true])) = (true, codesR tmreadt (views (seg TTreadt selreadt 1500 tmreadt (startF 26 cReadT.pat [.lit true]))), vwreadt 0) := by kernel_rfl
theorem vcsreadt1 : ∀ v ∈ vwreadt 1, VC TTreadt invreadt msreadt 1 treadt1 v := all_cons vcreadt1_0 (all_cons vcreadt1_1 (all_cons vcreadt1_2 (all_cons vcreadt1_3 (all_cons vcreadt1_4 (all_cons vcreadt1_5 (all_cons vcreadt1_6 (all_cons vcreadt1_7 (all_cons vcreadt1_8 (all_cons vcreadt1_9 (all_cons vcreadt1_10 (all_cons vcreadt1_11 (all_cons vcreadt1_12 (all_cons vcreadt1_13 (all_nil))))))))))))))
theorem okreadt1 : cfgOk treadt1 = true := by kernel_rfl
theorem sgreadt1 : segL cReadT.roms cReadT (seg TTreadt selreadt 1500 tmreadt treadt1) = (true, codesR tmreadt (views (seg TTreadt selreadt 1500 tmreadt treadt1)), vwreadt 1) := by kernel_rfl
theorem lnreadt0 : ∀ ρ, Known TTreadt (startF 26 cReadT.pat [.lit true]) ρ → invreadt 0 ρ.lt → Holds ρ (leanOf (Cfg.pc (startF 26 cReadT.pat [.lit true]))) := by
  intro ρ _ _
  exact (show Holds ρ [] from fun p hp => by cases hp)
theorem lnreadt1 : ∀ ρ, Known TTreadt treadt1 ρ → invreadt 1 ρ.lt → Holds ρ (leanOf (Cfg.pc treadt1)) := by
  intro ρ kn hi
  refine (show Holds ρ [.le (.var .i64 1001) (.lit 9)] from ?_)
  have hi : firstP (stopP (ρ.z.rl 0)) (ρ.i .i64 1001).toNat = (ρ.i .i64 1001).toNat ∧ (ρ.i .u64 1000) = valI (ρ.z.rl 0) (ρ.i .i64 1001).toNat := hi
  have hF : ρ.z.F = oct.Φ := kn.F
  simp only [h_nil, h_cons, d_le, d_eq, d_not, d_var, d_lit, d_cel, d_leq, d_fn, d_and, d_iff, IE.den, LE.den, AL.den, lenV, true_and, and_true, hF, pi2, pi3, pi4, pi5, pi6, pi7, pl1, pi8, pi9, pl3]
  obtain ⟨h1, h2⟩ := hi
  have := run9 h1
  omega
theorem told_readt : Sx.Told oct.Φ cReadT := by
  refine told_of (cs := []) (all_nil) (sel := selreadt) 1500 tmreadt invreadt msreadt vwreadt 0 (pc0 := [.lit true]) (by kernel_rfl) (by kernel_rfl) (by kernel_rfl) (post_nil rfl) ?_ ?_ ?_ rfl (fun ρ _ _ => by simp [Holds, BE.den]) (fun _ _ _ _ => trivial) ?_
  · intro k C h
    have := lk_mem h
    simp only [tmreadt, List.mem_cons, Prod.mk.injEq, List.not_mem_nil, or_false] at this
    rcases this with ⟨rfl, rfl⟩ | ⟨rfl, rfl⟩
    · exact okreadt0
    · exact okreadt1
  · intro k C h
    have := lk_mem h
    simp only [tmreadt, List.mem_cons, Prod.mk.injEq, List.not_mem_nil, or_false] at this
    rcases this with ⟨rfl, rfl⟩ | ⟨rfl, rfl⟩
    · exact sgreadt0
    · exact sgreadt1
  · intro k C h
    have := lk_mem h
    simp only [tmreadt, List.mem_cons, Prod.mk.injEq, List.not_mem_nil, or_false] at this
    rcases this with ⟨rfl, rfl⟩ | ⟨rfl, rfl⟩
    · exact vcsreadt0
    · exact vcsreadt1
  · intro k C h
    have := lk_mem h
    simp only [tmreadt, List.mem_cons, Prod.mk.injEq, List.not_mem_nil, or_false] at this
    rcases this with ⟨rfl, rfl⟩ | ⟨rfl, rfl⟩
    · exact lnreadt0
    · exact lnreadt1
noncomputable section
abbrev TTrreadt : Tab := T oct.Φ cRReadT.roms [cRRead]
def pcrreadt_0 : List BE := [(BE.le (IE.lit 0) (IE.fn .i64 4 (AL.lst (LE.rom 0) AL.nil))), (BE.le (IE.fn .i64 4 (AL.lst (LE.rom 0) AL.nil)) (IE.len (LE.rom 0))), (BE.lit true), (BE.le (IE.lit 1) (IE.len (LE.rom 0))), (BE.le (IE.len (LE.rom 0)) (IE.lit 2000))]
def pcrreadt_1 : List BE := ((BE.eq (IE.fn .i64 5 (AL.lst (LE.rom 0) AL.nil)) (IE.lit 0)) :: pcrreadt_0)
def pcrreadt_2 : List BE := ((BE.le (IE.fn .u64 3 (AL.lst (LE.rom 0) AL.nil)) (IE.sub (IE.len (LE.rom 0)) (IE.fn .i64 4 (AL.lst (LE.rom 0) AL.nil)))) :: pcrreadt_1)
def wrreadt_0 : VW := (VW.done ((BE.eq (IE.rcap 0) (IE.fn .i64 4 (AL.lst (LE.rom 0) AL.nil))) :: pcrreadt_2) (some [(G.l (LE.fn 3 (AL.lst (LE.rom 0) AL.nil)) (LE.take (LE.rom 0) (IE.fn .u64 3 (AL.lst (LE.rom 0) AL.nil)))), (G.i (IE.fn .i64 8 (AL.lst (LE.rom 0) AL.nil)) (IE.add (IE.fn .i64 4 (AL.lst (LE.rom 0) AL.nil)) (IE.fn .u64 3 (AL.lst (LE.rom 0) AL.nil)))), (G.i (IE.fn .i64 9 (AL.lst (LE.rom 0) AL.nil)) (IE.lit 0))]))
def wrreadt_1 : VW := (VW.done ((BE.not (BE.eq (IE.rcap 0) (IE.fn .i64 4 (AL.lst (LE.rom 0) AL.nil)))) :: pcrreadt_2) (some [(G.l (LE.fn 3 (AL.lst (LE.rom 0) AL.nil)) (LE.take (LE.drop (LE.rom 0) (IE.fn .i64 4 (AL.lst (LE.rom 0) AL.nil))) (IE.fn .u64 3 (AL.lst (LE.rom 0) AL.nil)))), (G.i (IE.fn .i64 8 (AL.lst (LE.rom 0) AL.nil)) (IE.add (IE.fn .i64 4 (AL.lst (LE.rom 0) AL.nil)) (IE.fn .u64 3 (AL.lst (LE.rom 0) AL.nil)))), (G.i (IE.fn .i64 9 (AL.lst (LE.rom 0) AL.nil)) (IE.lit 0))]))
def wrreadt_2 : VW := (VW.done ((BE.not (BE.le (IE.fn .u64 3 (AL.lst (LE.rom 0) AL.nil)) (IE.sub (IE.len (LE.rom 0)) (IE.fn .i64 4 (AL.lst (LE.rom 0) AL.nil))))) :: pcrreadt_1) (some [(G.l (LE.fn 3 (AL.lst (LE.rom 0) AL.nil)) LE.nil), (G.i (IE.fn .i64 8 (AL.lst (LE.rom 0) AL.nil)) (IE.lit 0)), (G.i (IE.fn .i64 9 (AL.lst (LE.rom 0) AL.nil)) (IE.lit 110))]))
def wrreadt_3 : VW := (VW.done ((BE.not (BE.eq (IE.fn .i64 5 (AL.lst (LE.rom 0) AL.nil)) (IE.lit 0))) :: pcrreadt_0) (some [(G.l (LE.fn 3 (AL.lst (LE.rom 0) AL.nil)) LE.nil), (G.i (IE.fn .i64 8 (AL.lst (LE.rom 0) AL.nil)) (IE.lit 0)), (G.i (IE.fn .i64 9 (AL.lst (LE.rom 0) AL.nil)) (IE.fn .i64 5 (AL.lst (LE.rom 0) AL.nil)))]))
def vwrreadt : List VW := [wrreadt_0, wrreadt_1, wrreadt_2, wrreadt_3]
end
theorem vcrreadt_0 : VD TTrreadt (st0 cRReadT) wrreadt_0 := by
  intro ρ kn hp
  have hF : ρ.z.F = oct.Φ := kn.F
  simp only [h_nil, h_cons, d_le, d_eq, d_not, d_var, d_lit, d_cel, d_leq, d_fn, d_and, d_iff, IE.den, LE.den, AL.den, lenV, true_and, and_true, pcrreadt_2, pcrreadt_1, pcrreadt_0, hF, pi2, pi3, pi4, pi5, pi6, pi7, pl1, pi8, pi9, pl3] at hp
  obtain ⟨p1, p2, p3, p4, p5, p6, p7⟩ := hp
  refine all_cons (show (ρ.z.F.l 3 [.lst (ρ.z.rl 0)]) = ((ρ.z.rl 0).take (clampK .u64 (ρ.z.F.i 3 [.lst (ρ.z.rl 0)])).toNat) from ?_) (all_cons (show (clampK .i64 (ρ.z.F.i 8 [.lst (ρ.z.rl 0)])) = ((clampK .i64 (ρ.z.F.i 4 [.lst (ρ.z.rl 0)])) + (clampK .u64 (ρ.z.F.i 3 [.lst (ρ.z.rl 0)]))) from ?_) (all_cons (show (clampK .i64 (ρ.z.F.i 9 [.lst (ρ.z.rl 0)])) = (0 : Int) from ?_) (all_nil)))
  all_goals try simp only [hF, pi2, pi3, pi4, pi5, pi6, pi7, pl1, pi8, pi9, pl3]
  all_goals
    have hT : Typed byteK (ρ.z.rl 0) := kn.rom 0 _ _ rfl
    have hcap := kn.cap 0 _ _ rfl
    have hlen := kn.ok.rl 0
    have hx := txtN_rng (ρ.z.rl 0)
    have cx : clampK .i64 (txtN (ρ.z.rl 0)) = txtN (ρ.z.rl 0) := i64_in (by omega) (by omega)
    have e1 := rdE_in (ρ.z.rl 0)
    have e2 := rdV_in (ρ.z.rl 0)
    have e3 := rdN_in (ρ.z.rl 0)
    have e4 := rdV_rng (ρ.z.rl 0)
    have e5 := rdN_rng (ρ.z.rl 0)
    simp only [e1, e2, e3] at *
    first
      | (have t := tx_ok hT (by assumption) (by omega)
         first
           | (rw [t.1]; done)
           | (rw [t.1, show (rdV (ρ.z.rl 0)).toNat = 0 by omega]; simp only [List.take_zero, Int.toNat_zero]; done)
           | (rw [cx, t.2.1]; done)
           | (rw [t.2.2]; rfl))
      | (have t := tx_long (by assumption) (by omega)
         first | exact t.1 | (rw [t.2.1]; rfl) | (rw [t.2.2]; rfl))
      | (have t := tx_no (L := ρ.z.rl 0) (by assumption)
         first | exact t.1 | (rw [t.2.1]; rfl) | (rw [t.2.2]; exact rdE_in _) | (rw [t.2.2]; done))
theorem vcrreadt_1 : VD TTrreadt (st0 cRReadT) wrreadt_1 := by
  intro ρ kn hp
  have hF : ρ.z.F = oct.Φ := kn.F
  simp only [h_nil, h_cons, d_le, d_eq, d_not, d_var, d_lit, d_cel, d_leq, d_fn, d_and, d_iff, IE.den, LE.den, AL.den, lenV, true_and, and_true, pcrreadt_2, pcrreadt_1, pcrreadt_0, hF, pi2, pi3, pi4, pi5, pi6, pi7, pl1, pi8, pi9, pl3] at hp
  obtain ⟨p1, p2, p3, p4, p5, p6, p7⟩ := hp
  refine all_cons (show (ρ.z.F.l 3 [.lst (ρ.z.rl 0)]) = (((ρ.z.rl 0).drop (clampK .i64 (ρ.z.F.i 4 [.lst (ρ.z.rl 0)])).toNat).take (clampK .u64 (ρ.z.F.i 3 [.lst (ρ.z.rl 0)])).toNat) from ?_) (all_cons (show (clampK .i64 (ρ.z.F.i 8 [.lst (ρ.z.rl 0)])) = ((clampK .i64 (ρ.z.F.i 4 [.lst (ρ.z.rl 0)])) + (clampK .u64 (ρ.z.F.i 3 [.lst (ρ.z.rl 0)]))) from ?_) (all_cons (show (clampK .i64 (ρ.z.F.i 9 [.lst (ρ.z.rl 0)])) = (0 : Int) from ?_) (all_nil)))
  all_goals try simp only [hF, pi2, pi3, pi4, pi5, pi6, pi7, pl1, pi8, pi9, pl3]
  all_goals
    have hT : Typed byteK (ρ.z.rl 0) := kn.rom 0 _ _ rfl
    have hcap := kn.cap 0 _ _ rfl
    have hlen := kn.ok.rl 0
    have hx := txtN_rng (ρ.z.rl 0)
    have cx : clampK .i64 (txtN (ρ.z.rl 0)) = txtN (ρ.z.rl 0) := i64_in (by omega) (by omega)
    have e1 := rdE_in (ρ.z.rl 0)
    have e2 := rdV_in (ρ.z.rl 0)
    have e3 := rdN_in (ρ.z.rl 0)
    have e4 := rdV_rng (ρ.z.rl 0)
    have e5 := rdN_rng (ρ.z.rl 0)
    simp only [e1, e2, e3] at *
    first
      | (have t := tx_ok hT (by assumption) (by omega)
         first
           | (rw [t.1]; done)
           | (rw [t.1, show (rdV (ρ.z.rl 0)).toNat = 0 by omega]; simp only [List.take_zero, Int.toNat_zero]; done)
           | (rw [cx, t.2.1]; done)
           | (rw [t.2.2]; rfl))
      | (have t := tx_long (by assumption) (by omega)
         first | exact t.1 | (rw [t.2.1]; rfl) | (rw [t.2.2]; rfl))
      | (have t := tx_no (L := ρ.z.rl 0) (by assumption)
         first | exact t.1 | (rw [t.2.1]; rfl) | (rw [t.2.2]; exact rdE_in _) | (rw [t.2.2]; done))
theorem vcrreadt_2 : VD TTrreadt (st0 cRReadT) wrreadt_2 := by
  intro ρ kn hp
  have hF : ρ.z.F = oct.Φ := kn.F
  simp only [h_nil, h_cons, d_le, d_eq, d_not, d_var, d_lit, d_cel, d_leq, d_fn, d_and, d_iff, IE.den, LE.den, AL.den, lenV, true_and, and_true, pcrreadt_1, pcrreadt_0, hF, pi2, pi3, pi4, pi5, pi6, pi7, pl1, pi8, pi9, pl3] at hp
  obtain ⟨p1, p2, p3, p4, p5, p6⟩ := hp
  refine all_cons (show (ρ.z.F.l 3 [.lst (ρ.z.rl 0)]) = ([] : LV) from ?_) (all_cons (show (clampK .i64 (ρ.z.F.i 8 [.lst (ρ.z.rl 0)])) = (0 : Int) from ?_) (all_cons (show (clampK .i64 (ρ.z.F.i 9 [.lst (ρ.z.rl 0)])) = (110 : Int) from ?_) (all_nil)))
  all_goals try simp only [hF, pi2, pi3, pi4, pi5, pi6, pi7, pl1, pi8, pi9, pl3]
  all_goals
    have hT : Typed byteK (ρ.z.rl 0) := kn.rom 0 _ _ rfl
    have hcap := kn.cap 0 _ _ rfl
    have hlen := kn.ok.rl 0
    have hx := txtN_rng (ρ.z.rl 0)
    have cx : clampK .i64 (txtN (ρ.z.rl 0)) = txtN (ρ.z.rl 0) := i64_in (by omega) (by omega)
    have e1 := rdE_in (ρ.z.rl 0)
    have e2 := rdV_in (ρ.z.rl 0)
    have e3 := rdN_in (ρ.z.rl 0)
    have e4 := rdV_rng (ρ.z.rl 0)
    have e5 := rdN_rng (ρ.z.rl 0)
    simp only [e1, e2, e3] at *
    first
      | (have t := tx_ok hT (by assumption) (by omega)
         first
           | (rw [t.1]; done)
           | (rw [t.1, show (rdV (ρ.z.rl 0)).toNat = 0 by omega]; simp only [List.take_zero, Int.toNat_zero]; done)
           | (rw [cx, t.2.1]; done)
           | (rw [t.2.2]; rfl))
      | (have t := tx_long (by assumption) (by omega)
         first | exact t.1 | (rw [t.2.1]; rfl) | (rw [t.2.2]; rfl))
      | (have t := tx_no (L := ρ.z.rl 0) (by assumption)
         first | exact t.1 | (rw [t.2.1]; rfl) | (rw [t.2.2]; exact rdE_in _) | (rw [t.2.2]; done))
theorem vcrreadt_3 : VD TTrreadt (st0 cRReadT) wrreadt_3 := by
  intro ρ kn hp
  have hF : ρ.z.F = oct.Φ := kn.F
  simp only [h_nil, h_cons, d_le, d_eq, d_not, d_var, d_lit, d_cel, d_leq, d_fn, d_and, d_iff, IE.den, LE.den, AL.den, lenV, true_and, and_true, pcrreadt_0, hF, pi2, pi3, pi4, pi5, pi6, pi7, pl1, pi8, pi9, pl3] at hp
  obtain ⟨p1, p2, p3, p4, p5⟩ := hp
  refine all_cons (show (ρ.z.F.l 3 [.lst (ρ.z.rl 0)]) = ([] : LV) from ?_) (all_cons (show (clampK .i64 (ρ.z.F.i 8 [.lst (ρ.z.rl 0)])) = (0 : Int) from ?_) (all_cons (show (clampK .i64 (ρ.z.F.i 9 [.lst (ρ.z.rl 0)])) = (clampK .i64 (ρ.z.F.i 5 [.lst (ρ.z.rl 0)])) from ?_) (all_nil)))
  all_goals try simp only [hF, pi2, pi3, pi4, pi5, pi6, pi7, pl1, pi8, pi9, pl3]
  all_goals
    have hT : Typed byteK (ρ.z.rl 0) := kn.rom 0 _ _ rfl
    have hcap := kn.cap 0 _ _ rfl
    have hlen := kn.ok.rl 0
    have hx := txtN_rng (ρ.z.rl 0)
    have cx : clampK .i64 (txtN (ρ.z.rl 0)) = txtN (ρ.z.rl 0) := i64_in (by omega) (by omega)
    have e1 := rdE_in (ρ.z.rl 0)
    have e2 := rdV_in (ρ.z.rl 0)
    have e3 := rdN_in (ρ.z.rl 0)
    have e4 := rdV_rng (ρ.z.rl 0)
    have e5 := rdN_rng (ρ.z.rl 0)
    simp only [e1, e2, e3] at *
    first
      | (have t := tx_ok hT (by assumption) (by omega)
         first
           | (rw [t.1]; done)
           | (rw [t.1, show (rdV (ρ.z.rl 0)).toNat = 0 by omega]; simp only [List.take_zero, Int.toNat_zero]; done)
           | (rw [cx, t.2.1]; done)
           | (rw [t.2.2]; rfl))
      | (have t := tx_long (by assumption) (by omega)
         first | exact t.1 | (rw [t.2.1]; rfl) | (rw [t.2.2]; rfl))
      | (have t := tx_no (L := ρ.z.rl 0) (by assumption)
         first | exact t.1 | (rw [t.2.1]; rfl) | (rw [t.2.2]; exact rdE_in _) | (rw [t.2.2]; done))
theorem told_rreadt : Sx.Told oct.Φ cRReadT := told_vw (cs := [cRRead]) (all_cons told_rread (all_nil)) 2000 vwrreadt (by kernel_rfl) (by kernel_rfl) (by kernel_rfl) post_rreadt (by kernel_rfl) (by kernel_rfl) (all_cons vcrreadt_0 (all_cons vcrreadt_1 (all_cons vcrreadt_2 (all_cons vcrreadt_3 (all_nil)))))
end Go.Proofs.Ytjgkaimgocnkmaa.oct
