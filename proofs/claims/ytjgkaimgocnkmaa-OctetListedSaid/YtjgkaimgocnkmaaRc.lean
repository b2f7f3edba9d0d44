/- Layer octet: lists, the document's, told. No condition. -/
import Derived.Test.YtjgkaimgocnkmaaRa
set_option linter.unusedVariables false
set_option linter.unusedSimpArgs false
set_option linter.deprecated false
namespace Go.Proofs.Ytjgkaimgocnkmaa.oct
open Go Go.Proofs.Ytjgkaimgocnkmaa.Sx
theorem post_te : PostOk Φ cRReadTe := by
  intro ρ hF hp
  have hm := hp (.le (ln 0) (.lit 0)) (by simp [cRReadTe])
  simp only [ln, d_le, IE.den, LE.den, lenV] at hm
  obtain ⟨t1, t2, t3, t4⟩ := tx_e (L := ρ.z.rl 0) (by omega)
  show Holds ρ [_, _, _]
  simp only [h_nil, h_cons, d_le, d_eq, IE.den, LE.den, AL.den, rdA, ln, lenV, hF, pi8, pi9, and_true, t2, t3]
  decide
noncomputable section
abbrev TTrte : Tab := T oct.Φ cRReadTe.roms [cRRead]
def pcrte_0 : List BE := [(BE.le (IE.lit 0) (IE.fn .i64 4 (AL.lst (LE.rom 0) AL.nil))), (BE.le (IE.fn .i64 4 (AL.lst (LE.rom 0) AL.nil)) (IE.len (LE.rom 0))), (BE.lit true), (BE.le (IE.len (LE.rom 0)) (IE.lit 0))]
def pcrte_1 : List BE := ((BE.eq (IE.fn .i64 5 (AL.lst (LE.rom 0) AL.nil)) (IE.lit 0)) :: pcrte_0)
def pcrte_2 : List BE := ((BE.le (IE.fn .u64 3 (AL.lst (LE.rom 0) AL.nil)) (IE.sub (IE.len (LE.rom 0)) (IE.fn .i64 4 (AL.lst (LE.rom 0) AL.nil)))) :: pcrte_1)
def wrte_0 : VW := (VW.done ((BE.eq (IE.rcap 0) (IE.fn .i64 4 (AL.lst (LE.rom 0) AL.nil))) :: pcrte_2) (some [(G.l (LE.fn 3 (AL.lst (LE.rom 0) AL.nil)) (LE.take (LE.rom 0) (IE.fn .u64 3 (AL.lst (LE.rom 0) AL.nil)))), (G.i (IE.fn .i64 8 (AL.lst (LE.rom 0) AL.nil)) (IE.add (IE.fn .i64 4 (AL.lst (LE.rom 0) AL.nil)) (IE.fn .u64 3 (AL.lst (LE.rom 0) AL.nil)))), (G.i (IE.fn .i64 9 (AL.lst (LE.rom 0) AL.nil)) (IE.lit 0))]))
def wrte_1 : VW := (VW.done ((BE.not (BE.eq (IE.rcap 0) (IE.fn .i64 4 (AL.lst (LE.rom 0) AL.nil)))) :: pcrte_2) (some [(G.l (LE.fn 3 (AL.lst (LE.rom 0) AL.nil)) (LE.take (LE.drop (LE.rom 0) (IE.fn .i64 4 (AL.lst (LE.rom 0) AL.nil))) (IE.fn .u64 3 (AL.lst (LE.rom 0) AL.nil)))), (G.i (IE.fn .i64 8 (AL.lst (LE.rom 0) AL.nil)) (IE.add (IE.fn .i64 4 (AL.lst (LE.rom 0) AL.nil)) (IE.fn .u64 3 (AL.lst (LE.rom 0) AL.nil)))), (G.i (IE.fn .i64 9 (AL.lst (LE.rom 0) AL.nil)) (IE.lit 0))]))
def wrte_2 : VW := (VW.done ((BE.not (BE.le (IE.fn .u64 3 (AL.lst (LE.rom 0) AL.nil)) (IE.sub (IE.len (LE.rom 0)) (IE.fn .i64 4 (AL.lst (LE.rom 0) AL.nil))))) :: pcrte_1) (some [(G.l (LE.fn 3 (AL.lst (LE.rom 0) AL.nil)) LE.nil), (G.i (IE.fn .i64 8 (AL.lst (LE.rom 0) AL.nil)) (IE.lit 0)), (G.i (IE.fn .i64 9 (AL.lst (LE.rom 0) AL.nil)) (IE.lit 110))]))
def wrte_3 : VW := (VW.done ((BE.not (BE.eq (IE.fn .i64 5 (AL.lst (LE.rom 0) AL.nil)) (IE.lit 0))) :: pcrte_0) (some [(G.l (LE.fn 3 (AL.lst (LE.rom 0) AL.nil)) LE.nil), (G.i (IE.fn .i64 8 (AL.lst (LE.rom 0) AL.nil)) (IE.lit 0)), (G.i (IE.fn .i64 9 (AL.lst (LE.rom 0) AL.nil)) (IE.fn .i64 5 (AL.lst (LE.rom 0) AL.nil)))]))
def vwrte : List VW := [wrte_0, wrte_1, wrte_2, wrte_3]
end
theorem vcrte_0 : VD TTrte (st0 cRReadTe) wrte_0 := by
  intro ρ kn hp
  have hF : ρ.z.F = oct.Φ := kn.F
  simp only [h_nil, h_cons, d_le, d_eq, d_not, d_var, d_lit, d_cel, d_leq, d_fn, d_and, d_iff, IE.den, LE.den, AL.den, lenV, true_and, and_true, pcrte_2, pcrte_1, pcrte_0, hF, pi2, pi3, pi4, pi5, pi6, pi7, pl1, pi8, pi9, pl3, pi10, pi11, pb1, pl2] at hp
  obtain ⟨p1, p2, p3, p4, p5, p6⟩ := hp
  refine all_cons (show (ρ.z.F.l 3 [.lst (ρ.z.rl 0)]) = ((ρ.z.rl 0).take (clampK .u64 (ρ.z.F.i 3 [.lst (ρ.z.rl 0)])).toNat) from ?_) (all_cons (show (clampK .i64 (ρ.z.F.i 8 [.lst (ρ.z.rl 0)])) = ((clampK .i64 (ρ.z.F.i 4 [.lst (ρ.z.rl 0)])) + (clampK .u64 (ρ.z.F.i 3 [.lst (ρ.z.rl 0)]))) from ?_) (all_cons (show (clampK .i64 (ρ.z.F.i 9 [.lst (ρ.z.rl 0)])) = (0 : Int) from ?_) (all_nil)))
  all_goals try simp only [hF, pi2, pi3, pi4, pi5, pi6, pi7, pl1, pi8, pi9, pl3, pi10, pi11, pb1, pl2]
  all_goals obtain ⟨t1, t2, t3, t4⟩ := tx_e (L := ρ.z.rl 0) (by omega)
  all_goals first
    | (exfalso; simp only [rdE_in] at *; omega)
    | exact t1
    | (rw [t2]; rfl)
    | (rw [t3, t4]; done)
    | skip
theorem vcrte_1 : VD TTrte (st0 cRReadTe) wrte_1 := by
  intro ρ kn hp
  have hF : ρ.z.F = oct.Φ := kn.F
  simp only [h_nil, h_cons, d_le, d_eq, d_not, d_var, d_lit, d_cel, d_leq, d_fn, d_and, d_iff, IE.den, LE.den, AL.den, lenV, true_and, and_true, pcrte_2, pcrte_1, pcrte_0, hF, pi2, pi3, pi4, pi5, pi6, pi7, pl1, pi8, pi9, pl3, pi10, pi11, pb1, pl2] at hp
  obtain ⟨p1, p2, p3, p4, p5, p6⟩ := hp
  refine all_cons (show (ρ.z.F.l 3 [.lst (ρ.z.rl 0)]) = (((ρ.z.rl 0).drop (clampK .i64 (ρ.z.F.i 4 [.lst (ρ.z.rl 0)])).toNat).take (clampK .u64 (ρ.z.F.i 3 [.lst (ρ.z.rl 0)])).toNat) from ?_) (all_cons (show (clampK .i64 (ρ.z.F.i 8 [.lst (ρ.z.rl 0)])) = ((clampK .i64 (ρ.z.F.i 4 [.lst (ρ.z.rl 0)])) + (clampK .u64 (ρ.z.F.i 3 [.lst (ρ.z.rl 0)]))) from ?_) (all_cons (show (clampK .i64 (ρ.z.F.i 9 [.lst (ρ.z.rl 0)])) = (0 : Int) from ?_) (all_nil)))
  all_goals try simp only [hF, pi2, pi3, pi4, pi5, pi6, pi7, pl1, pi8, pi9, pl3, pi10, pi11, pb1, pl2]
  all_goals obtain ⟨t1, t2, t3, t4⟩ := tx_e (L := ρ.z.rl 0) (by omega)
  all_goals first
    | (exfalso; simp only [rdE_in] at *; omega)
    | exact t1
    | (rw [t2]; rfl)
    | (rw [t3, t4]; done)
    | skip
theorem vcrte_2 : VD TTrte (st0 cRReadTe) wrte_2 := by
  intro ρ kn hp
  have hF : ρ.z.F = oct.Φ := kn.F
  simp only [h_nil, h_cons, d_le, d_eq, d_not, d_var, d_lit, d_cel, d_leq, d_fn, d_and, d_iff, IE.den, LE.den, AL.den, lenV, true_and, and_true, pcrte_1, pcrte_0, hF, pi2, pi3, pi4, pi5, pi6, pi7, pl1, pi8, pi9, pl3, pi10, pi11, pb1, pl2] at hp
  obtain ⟨p1, p2, p3, p4, p5⟩ := hp
  refine all_cons (show (ρ.z.F.l 3 [.lst (ρ.z.rl 0)]) = ([] : LV) from ?_) (all_cons (show (clampK .i64 (ρ.z.F.i 8 [.lst (ρ.z.rl 0)])) = (0 : Int) from ?_) (all_cons (show (clampK .i64 (ρ.z.F.i 9 [.lst (ρ.z.rl 0)])) = (110 : Int) from ?_) (all_nil)))
  all_goals try simp only [hF, pi2, pi3, pi4, pi5, pi6, pi7, pl1, pi8, pi9, pl3, pi10, pi11, pb1, pl2]
  all_goals obtain ⟨t1, t2, t3, t4⟩ := tx_e (L := ρ.z.rl 0) (by omega)
  all_goals first
    | (exfalso; simp only [rdE_in] at *; omega)
    | exact t1
    | (rw [t2]; rfl)
    | (rw [t3, t4]; done)
    | skip
theorem vcrte_3 : VD TTrte (st0 cRReadTe) wrte_3 := by
  intro ρ kn hp
  have hF : ρ.z.F = oct.Φ := kn.F
  simp only [h_nil, h_cons, d_le, d_eq, d_not, d_var, d_lit, d_cel, d_leq, d_fn, d_and, d_iff, IE.den, LE.den, AL.den, lenV, true_and, and_true, pcrte_0, hF, pi2, pi3, pi4, pi5, pi6, pi7, pl1, pi8, pi9, pl3, pi10, pi11, pb1, pl2] at hp
  obtain ⟨p1, p2, p3, p4⟩ := hp
  refine all_cons (show (ρ.z.F.l 3 [.lst (ρ.z.rl 0)]) = ([] : LV) from ?_) (all_cons (show (clampK .i64 (ρ.z.F.i 8 [.lst (ρ.z.rl 0)])) = (0 : Int) from ?_) (all_cons (show (clampK .i64 (ρ.z.F.i 9 [.lst (ρ.z.rl 0)])) = (clampK .i64 (ρ.z.F.i 5 [.lst (ρ.z.rl 0)])) from ?_) (all_nil)))
  all_goals try simp only [hF, pi2, pi3, pi4, pi5, pi6, pi7, pl1, pi8, pi9, pl3, pi10, pi11, pb1, pl2]
  all_goals obtain ⟨t1, t2, t3, t4⟩ := tx_e (L := ρ.z.rl 0) (by omega)
  all_goals first
    | (exfalso; simp only [rdE_in] at *; omega)
    | exact t1
    | (rw [t2]; rfl)
    | (rw [t3, t4]; done)
    | skip
theorem told_rte : Sx.Told oct.Φ cRReadTe := told_vw (cs := [cRRead]) (all_cons told_rread (all_nil)) 2000 vwrte (by kernel_rfl) (by kernel_rfl) (by kernel_rfl) post_te (by kernel_rfl) (by kernel_rfl) (all_cons vcrte_0 (all_cons vcrte_1 (all_cons vcrte_2 (all_cons vcrte_3 (all_nil)))))
theorem post_rlR : PostOk Φ cRListR := by
  intro ρ hF hp
  have hm := hp (.le (ln 0) (.lit 2000)) (by simp [cRListR, preL])
  have hb := hp lsBE (by simp [cRListR])
  simp only [ln, d_le, IE.den, LE.den, lenV] at hm
  simp only [lsBE, rS2, xv, d_fn, IE.den, LE.den, AL.den, hF, pb1] at hb
  have := post_ls hb hm
  show Holds ρ [_, _]
  simp only [h_nil, h_cons, d_le, IE.den, LE.den, AL.den, lsLE, rS2, xv, lenV, hF, pl2, and_true]
  exact this
noncomputable section
abbrev TTrlR : Tab := T oct.Φ cRListR.roms [cRRead, cRReadT, cRReadTe]
def trlR1 : Cfg := { top := ⟨35, over (opqS 10000 53) [(0, (SV.rom 0 (IE.lit 0) (IE.len (LE.rom 0)) none)), (7, (SV.int .u64 (IE.fn .u64 3 (AL.lst (LE.rom 0) AL.nil)))), (8, (SV.int .i64 (IE.fn .i64 4 (AL.lst (LE.rom 0) AL.nil)))), (10, (SV.const (Go.Value.slice none 0 0)))], ogt (loopTodo (bodyOf (T oct.Φ [] []) 35) 0), [], false, none⟩, rest := [], heap := [], next := 1, pc := .lit true :: ([] ++ [(BE.le (IE.len (LE.rom 0)) (IE.lit 2000)), (BE.le (IE.lit 1) (IE.len (LE.rom 0))), (BE.fn 1 (AL.lst (LE.rom 0) (AL.int .i64 (IE.var .i64 1) AL.nil))), (BE.le (IE.fn .i64 4 (AL.lst (LE.rom 0) AL.nil)) (IE.len (LE.rom 0))), (BE.le (IE.lit 0) (IE.fn .i64 4 (AL.lst (LE.rom 0) AL.nil))), (BE.eq (IE.fn .i64 5 (AL.lst (LE.rom 0) AL.nil)) (IE.lit 0))] ++ (.and (.lit true) (.lit true)) :: [.le (ln 0) (.rcap 0)]) }
def trlR2 : Cfg := { top := ⟨35, over (opqS 10000 53) [(0, (SV.rom 0 (IE.lit 0) (IE.len (LE.rom 0)) none)), (7, (SV.int .u64 (IE.fn .u64 3 (AL.lst (LE.rom 0) AL.nil)))), (8, (SV.int .i64 (IE.var .i64 1000))), (10, (SV.sll 2 3 1 (IE.lit 0) (IE.var .i64 1001) none))], ogt (loopTodo (bodyOf (T oct.Φ [] []) 35) 0), [], false, none⟩, rest := [], heap := [(2, .rowl (LE.var 1002) (IE.var .i64 1001) [CK.str] 9 3 1)], next := 4, pc := .lit true :: ([] ++ [(BE.le (IE.len (LE.rom 0)) (IE.rcap 0)), (BE.eq (IE.fn .i64 5 (AL.lst (LE.rom 0) AL.nil)) (IE.lit 0)), (BE.le (IE.lit 0) (IE.fn .i64 4 (AL.lst (LE.rom 0) AL.nil))), (BE.le (IE.fn .i64 4 (AL.lst (LE.rom 0) AL.nil)) (IE.len (LE.rom 0))), (BE.fn 1 (AL.lst (LE.rom 0) (AL.int .i64 (IE.var .i64 1) AL.nil))), (BE.le (IE.lit 1) (IE.len (LE.rom 0))), (BE.le (IE.len (LE.rom 0)) (IE.lit 2000)), (BE.not (BE.le (IE.fn .u64 3 (AL.lst (LE.rom 0) AL.nil)) (IE.lit 0))), (BE.not (BE.eq (IE.rcap 0) (IE.fn .i64 4 (AL.lst (LE.rom 0) AL.nil)))), (BE.le (IE.lit 1) (IE.sub (IE.len (LE.rom 0)) (IE.fn .i64 4 (AL.lst (LE.rom 0) AL.nil)))), (BE.le (IE.fn .i64 8 (AL.lst (LE.drop (LE.rom 0) (IE.fn .i64 4 (AL.lst (LE.rom 0) AL.nil))) AL.nil)) (IE.sub (IE.len (LE.rom 0)) (IE.fn .i64 4 (AL.lst (LE.rom 0) AL.nil)))), (BE.le (IE.lit 0) (IE.fn .i64 8 (AL.lst (LE.drop (LE.rom 0) (IE.fn .i64 4 (AL.lst (LE.rom 0) AL.nil))) AL.nil))), (BE.eq (IE.fn .i64 9 (AL.lst (LE.drop (LE.rom 0) (IE.fn .i64 4 (AL.lst (LE.rom 0) AL.nil))) AL.nil)) (IE.lit 0)), (BE.le (IE.lit 0) (IE.var .i64 1000)), (BE.le (IE.var .i64 1000) (IE.len (LE.rom 0))), (BE.le (IE.lit 0) (IE.var .i64 1001))] ++ (.and (.lit true) (.lit true)) :: [.le (ln 0) (.rcap 0), .le (.var .i64 1001) (.lit 2000)]) }
def tmrlR : List (Nat × Cfg) := [(0, startF 35 cRListR.pat (.lit true :: cRListR.pre)), (1, trlR1), (2, trlR2)]
def selrlR : Sel := [(35, 1, 1281000, 1), (35, 1, 1282000, 2)]
def pcrlR0_0 : List BE := [(BE.le (IE.lit 0) (IE.fn .i64 4 (AL.lst (LE.rom 0) AL.nil))), (BE.le (IE.fn .i64 4 (AL.lst (LE.rom 0) AL.nil)) (IE.len (LE.rom 0))), (BE.lit true), (BE.fn 1 (AL.lst (LE.rom 0) (AL.int .i64 (IE.var .i64 1) AL.nil))), (BE.le (IE.lit 1) (IE.len (LE.rom 0))), (BE.le (IE.len (LE.rom 0)) (IE.lit 2000))]
def pcrlR0_1 : List BE := ((BE.eq (IE.fn .i64 5 (AL.lst (LE.rom 0) AL.nil)) (IE.lit 0)) :: pcrlR0_0)
def pcrlR0_2 : List BE := ((BE.le (IE.lit 0) (IE.var .i64 1)) :: pcrlR0_1)
def pcrlR0_3 : List BE := ((BE.not (BE.le (IE.lit 0) (IE.var .i64 1))) :: pcrlR0_1)
def wrlR0_0 : VW := (VW.cut 1 ((BE.le (IE.fn .u64 3 (AL.lst (LE.rom 0) AL.nil)) (IE.var .i64 1)) :: pcrlR0_2) (Sx.Sub.mk [] [] [] [] [] []))
def wrlR0_1 : VW := (VW.done ((BE.not (BE.le (IE.fn .u64 3 (AL.lst (LE.rom 0) AL.nil)) (IE.var .i64 1))) :: pcrlR0_2) (some [(G.b (BE.lit true) (BE.lit false))]))
def wrlR0_2 : VW := (VW.cut 1 ((BE.le (IE.fn .u64 3 (AL.lst (LE.rom 0) AL.nil)) (IE.lit 0)) :: pcrlR0_3) (Sx.Sub.mk [] [] [] [] [] []))
def wrlR0_3 : VW := (VW.done ((BE.not (BE.le (IE.fn .u64 3 (AL.lst (LE.rom 0) AL.nil)) (IE.lit 0))) :: pcrlR0_3) (some [(G.b (BE.lit true) (BE.lit false))]))
def wrlR0_4 : VW := (VW.done ((BE.not (BE.eq (IE.fn .i64 5 (AL.lst (LE.rom 0) AL.nil)) (IE.lit 0))) :: pcrlR0_0) (some [(G.b (BE.lit true) (BE.lit false))]))
def vwrlR0 : List VW := [wrlR0_0, wrlR0_1, wrlR0_2, wrlR0_3, wrlR0_4]
def pcrlR1_0 : List BE := [(BE.lit true), (BE.le (IE.len (LE.rom 0)) (IE.lit 2000)), (BE.le (IE.lit 1) (IE.len (LE.rom 0))), (BE.fn 1 (AL.lst (LE.rom 0) (AL.int .i64 (IE.var .i64 1) AL.nil))), (BE.le (IE.fn .i64 4 (AL.lst (LE.rom 0) AL.nil)) (IE.len (LE.rom 0))), (BE.le (IE.lit 0) (IE.fn .i64 4 (AL.lst (LE.rom 0) AL.nil))), (BE.eq (IE.fn .i64 5 (AL.lst (LE.rom 0) AL.nil)) (IE.lit 0)), (BE.and (BE.lit true) (BE.lit true)), (BE.le (IE.len (LE.rom 0)) (IE.rcap 0))]
def pcrlR1_1 : List BE := ((BE.not (BE.le (IE.fn .u64 3 (AL.lst (LE.rom 0) AL.nil)) (IE.lit 0))) :: pcrlR1_0)
def pcrlR1_2 : List BE := ((BE.not (BE.eq (IE.rcap 0) (IE.fn .i64 4 (AL.lst (LE.rom 0) AL.nil)))) :: pcrlR1_1)
def pcrlR1_3 : List BE := ((BE.le (IE.lit 0) (IE.fn .i64 8 (AL.lst (LE.drop (LE.rom 0) (IE.fn .i64 4 (AL.lst (LE.rom 0) AL.nil))) AL.nil))) :: (BE.le (IE.fn .i64 8 (AL.lst (LE.drop (LE.rom 0) (IE.fn .i64 4 (AL.lst (LE.rom 0) AL.nil))) AL.nil)) (IE.sub (IE.len (LE.rom 0)) (IE.fn .i64 4 (AL.lst (LE.rom 0) AL.nil)))) :: (BE.le (IE.lit 1) (IE.sub (IE.len (LE.rom 0)) (IE.fn .i64 4 (AL.lst (LE.rom 0) AL.nil)))) :: pcrlR1_2)
def wrlR1_0 : VW := (VW.done ((BE.le (IE.fn .u64 3 (AL.lst (LE.rom 0) AL.nil)) (IE.lit 0)) :: pcrlR1_0) (some [(G.b (BE.lit true) (BE.lit false))]))
def wrlR1_1 : VW := (VW.done ((BE.le (IE.lit 0) (IE.fn .i64 8 (AL.lst (LE.take (LE.rom 0) (IE.sub (IE.len (LE.rom 0)) (IE.fn .i64 4 (AL.lst (LE.rom 0) AL.nil)))) AL.nil))) :: (BE.le (IE.fn .i64 8 (AL.lst (LE.take (LE.rom 0) (IE.sub (IE.len (LE.rom 0)) (IE.fn .i64 4 (AL.lst (LE.rom 0) AL.nil)))) AL.nil)) (IE.lit 0)) :: (BE.eq (IE.fn .i64 9 (AL.lst (LE.take (LE.rom 0) (IE.sub (IE.len (LE.rom 0)) (IE.fn .i64 4 (AL.lst (LE.rom 0) AL.nil)))) AL.nil)) (IE.lit 110)) :: (BE.eq (IE.rcap 0) (IE.fn .i64 4 (AL.lst (LE.rom 0) AL.nil))) :: pcrlR1_1) (some [(G.b (BE.lit true) (BE.lit false))]))
def wrlR1_2 : VW := (VW.cut 2 ((BE.eq (IE.fn .i64 9 (AL.lst (LE.drop (LE.rom 0) (IE.fn .i64 4 (AL.lst (LE.rom 0) AL.nil))) AL.nil)) (IE.lit 0)) :: pcrlR1_3) (Sx.Sub.mk [(.i64, (1001, (IE.lit 1))), (.i64, (1000, (IE.add (IE.fn .i64 4 (AL.lst (LE.rom 0) AL.nil)) (IE.fn .i64 8 (AL.lst (LE.drop (LE.rom 0) (IE.fn .i64 4 (AL.lst (LE.rom 0) AL.nil))) AL.nil)))))] [] [(1002, (LE.one (AL.lst (LE.fn 3 (AL.lst (LE.drop (LE.rom 0) (IE.fn .i64 4 (AL.lst (LE.rom 0) AL.nil))) AL.nil)) AL.nil)))] [] [] []))
def wrlR1_3 : VW := (VW.done ((BE.not (BE.eq (IE.fn .i64 9 (AL.lst (LE.drop (LE.rom 0) (IE.fn .i64 4 (AL.lst (LE.rom 0) AL.nil))) AL.nil)) (IE.lit 0))) :: pcrlR1_3) (some [(G.b (BE.lit true) (BE.lit false))]))
def wrlR1_4 : VW := (VW.done ((BE.le (IE.lit 0) (IE.fn .i64 8 (AL.lst (LE.drop (LE.rom 0) (IE.fn .i64 4 (AL.lst (LE.rom 0) AL.nil))) AL.nil))) :: (BE.le (IE.fn .i64 8 (AL.lst (LE.drop (LE.rom 0) (IE.fn .i64 4 (AL.lst (LE.rom 0) AL.nil))) AL.nil)) (IE.lit 0)) :: (BE.eq (IE.fn .i64 9 (AL.lst (LE.drop (LE.rom 0) (IE.fn .i64 4 (AL.lst (LE.rom 0) AL.nil))) AL.nil)) (IE.lit 110)) :: (BE.not (BE.le (IE.lit 1) (IE.sub (IE.len (LE.rom 0)) (IE.fn .i64 4 (AL.lst (LE.rom 0) AL.nil))))) :: pcrlR1_2) (some [(G.b (BE.lit true) (BE.lit false))]))
def vwrlR1 : List VW := [wrlR1_0, wrlR1_1, wrlR1_2, wrlR1_3, wrlR1_4]
def pcrlR2_0 : List BE := [(BE.lit true), (BE.le (IE.len (LE.rom 0)) (IE.rcap 0)), (BE.eq (IE.fn .i64 5 (AL.lst (LE.rom 0) AL.nil)) (IE.lit 0)), (BE.le (IE.lit 0) (IE.fn .i64 4 (AL.lst (LE.rom 0) AL.nil))), (BE.le (IE.fn .i64 4 (AL.lst (LE.rom 0) AL.nil)) (IE.len (LE.rom 0))), (BE.fn 1 (AL.lst (LE.rom 0) (AL.int .i64 (IE.var .i64 1) AL.nil))), (BE.le (IE.lit 1) (IE.len (LE.rom 0))), (BE.le (IE.len (LE.rom 0)) (IE.lit 2000)), (BE.not (BE.le (IE.fn .u64 3 (AL.lst (LE.rom 0) AL.nil)) (IE.lit 0))), (BE.not (BE.eq (IE.rcap 0) (IE.fn .i64 4 (AL.lst (LE.rom 0) AL.nil)))), (BE.le (IE.lit 1) (IE.sub (IE.len (LE.rom 0)) (IE.fn .i64 4 (AL.lst (LE.rom 0) AL.nil)))), (BE.le (IE.fn .i64 8 (AL.lst (LE.drop (LE.rom 0) (IE.fn .i64 4 (AL.lst (LE.rom 0) AL.nil))) AL.nil)) (IE.sub (IE.len (LE.rom 0)) (IE.fn .i64 4 (AL.lst (LE.rom 0) AL.nil)))), (BE.le (IE.lit 0) (IE.fn .i64 8 (AL.lst (LE.drop (LE.rom 0) (IE.fn .i64 4 (AL.lst (LE.rom 0) AL.nil))) AL.nil))), (BE.eq (IE.fn .i64 9 (AL.lst (LE.drop (LE.rom 0) (IE.fn .i64 4 (AL.lst (LE.rom 0) AL.nil))) AL.nil)) (IE.lit 0)), (BE.le (IE.lit 0) (IE.var .i64 1000)), (BE.le (IE.var .i64 1000) (IE.len (LE.rom 0))), (BE.le (IE.lit 0) (IE.var .i64 1001)), (BE.and (BE.lit true) (BE.lit true)), (BE.le (IE.len (LE.rom 0)) (IE.rcap 0)), (BE.le (IE.var .i64 1001) (IE.lit 2000))]
def pcrlR2_1 : List BE := ((BE.not (BE.le (IE.fn .u64 3 (AL.lst (LE.rom 0) AL.nil)) (IE.var .i64 1001))) :: pcrlR2_0)
def pcrlR2_2 : List BE := ((BE.not (BE.eq (IE.rcap 0) (IE.var .i64 1000))) :: pcrlR2_1)
def pcrlR2_3 : List BE := ((BE.le (IE.lit 0) (IE.fn .i64 8 (AL.lst (LE.drop (LE.rom 0) (IE.var .i64 1000)) AL.nil))) :: (BE.le (IE.fn .i64 8 (AL.lst (LE.drop (LE.rom 0) (IE.var .i64 1000)) AL.nil)) (IE.sub (IE.len (LE.rom 0)) (IE.var .i64 1000))) :: (BE.le (IE.lit 1) (IE.sub (IE.len (LE.rom 0)) (IE.var .i64 1000))) :: pcrlR2_2)
def wrlR2_0 : VW := (VW.done ((BE.le (IE.fn .u64 3 (AL.lst (LE.rom 0) AL.nil)) (IE.var .i64 1001)) :: pcrlR2_0) (some [(G.i (IE.len (LE.fn 2 (AL.lst (LE.rom 0) (AL.int .i64 (IE.var .i64 1) AL.nil)))) (IE.var .i64 1001)), (G.i (IE.fn .i64 11 (AL.lst (LE.rom 0) (AL.int .i64 (IE.var .i64 1) AL.nil))) (IE.var .i64 1000)), (G.l (LE.fn 2 (AL.lst (LE.rom 0) (AL.int .i64 (IE.var .i64 1) AL.nil))) (LE.var 1002)), (G.i (IE.len (LE.fn 2 (AL.lst (LE.rom 0) (AL.int .i64 (IE.var .i64 1) AL.nil)))) (IE.var .i64 1001))]))
def wrlR2_1 : VW := (VW.done ((BE.le (IE.lit 0) (IE.fn .i64 8 (AL.lst (LE.take (LE.rom 0) (IE.sub (IE.len (LE.rom 0)) (IE.var .i64 1000))) AL.nil))) :: (BE.le (IE.fn .i64 8 (AL.lst (LE.take (LE.rom 0) (IE.sub (IE.len (LE.rom 0)) (IE.var .i64 1000))) AL.nil)) (IE.lit 0)) :: (BE.eq (IE.fn .i64 9 (AL.lst (LE.take (LE.rom 0) (IE.sub (IE.len (LE.rom 0)) (IE.var .i64 1000))) AL.nil)) (IE.lit 110)) :: (BE.eq (IE.rcap 0) (IE.var .i64 1000)) :: pcrlR2_1) (some [(G.b (BE.lit true) (BE.lit false))]))
def wrlR2_2 : VW := (VW.cut 2 ((BE.eq (IE.fn .i64 9 (AL.lst (LE.drop (LE.rom 0) (IE.var .i64 1000)) AL.nil)) (IE.lit 0)) :: pcrlR2_3) (Sx.Sub.mk [(.i64, (1001, (IE.add (IE.var .i64 1001) (IE.lit 1)))), (.i64, (1000, (IE.add (IE.var .i64 1000) (IE.fn .i64 8 (AL.lst (LE.drop (LE.rom 0) (IE.var .i64 1000)) AL.nil)))))] [] [(1002, (LE.cat (LE.var 1002) (LE.one (AL.lst (LE.fn 3 (AL.lst (LE.drop (LE.rom 0) (IE.var .i64 1000)) AL.nil)) AL.nil))))] [] [] []))
def wrlR2_3 : VW := (VW.done ((BE.not (BE.eq (IE.fn .i64 9 (AL.lst (LE.drop (LE.rom 0) (IE.var .i64 1000)) AL.nil)) (IE.lit 0))) :: pcrlR2_3) (some [(G.b (BE.lit true) (BE.lit false))]))
def wrlR2_4 : VW := (VW.done ((BE.le (IE.lit 0) (IE.fn .i64 8 (AL.lst (LE.drop (LE.rom 0) (IE.var .i64 1000)) AL.nil))) :: (BE.le (IE.fn .i64 8 (AL.lst (LE.drop (LE.rom 0) (IE.var .i64 1000)) AL.nil)) (IE.lit 0)) :: (BE.eq (IE.fn .i64 9 (AL.lst (LE.drop (LE.rom 0) (IE.var .i64 1000)) AL.nil)) (IE.lit 110)) :: (BE.not (BE.le (IE.lit 1) (IE.sub (IE.len (LE.rom 0)) (IE.var .i64 1000)))) :: pcrlR2_2) (some [(G.b (BE.lit true) (BE.lit false))]))
def vwrlR2 : List VW := [wrlR2_0, wrlR2_1, wrlR2_2, wrlR2_3, wrlR2_4]
def vwrlR : Nat → List VW
  | 0 => vwrlR0
  | 1 => vwrlR1
  | 2 => vwrlR2
  | _ => []
end
def invrlR : Nat → Lt → Prop
  | 1, l => (rdV (l.z.rl 0) ≤ (l.i .i64 1) ∨ rdV (l.z.rl 0) ≤ 0) ∧ (l.z.rl 0).length ≤ 2000
  | 2, l => Tx (l.z.rl 0) (l.i .i64 1001) (l.i .i64 1000) ∧ (l.l 1002) = txsT (l.z.rl 0) (l.i .i64 1001).toNat ∧ (l.i .i64 1001) ≤ rdV (l.z.rl 0) ∧ (rdV (l.z.rl 0) ≤ (l.i .i64 1) ∨ rdV (l.z.rl 0) ≤ 0) ∧ (l.z.rl 0).length ≤ 2000
  | _, _ => True
def msrlR : Nat → Lt → Nat
  | 0, l => (l.z.rl 0).length + 3
  | 1, l => (l.z.rl 0).length + 2
  | 2, l => (l.z.rl 0).length + 1 - (l.i .i64 1001).toNat
  | _, _ => 0
theorem vcgrlR0_0 : VC TTrlR invrlR msrlR 0 (startF 35 cRListR.pat (.lit true :: cRListR.pre)) wrlR0_1 ∧ VC TTrlR invrlR msrlR 0 (startF 35 cRListR.pat (.lit true :: cRListR.pre)) wrlR0_3 ∧ VC TTrlR invrlR msrlR 0 (startF 35 cRListR.pat (.lit true :: cRListR.pre)) wrlR0_4 := by
  refine ⟨?_, ?_, ?_⟩
  all_goals
    intro ρ kn hi hp
    have hF : ρ.z.F = oct.Φ := kn.F
    simp only [h_nil, h_cons, d_le, d_eq, d_not, d_var, d_lit, d_cel, d_leq, d_fn, d_and, d_iff, IE.den, LE.den, AL.den, lenV, true_and, and_true, pcrlR0_2, pcrlR0_1, pcrlR0_0, pcrlR0_3, hF, pi2, pi3, pi4, pi5, pi6, pi7, pl1, pi8, pi9, pl3, pi10, pi11, pb1, pl2] at hp
    have p1 := And.left hp
    replace hp := And.right hp
    repeat (have _ := And.left hp; replace hp := And.right hp)
    exfalso
    have hl := kn.ok.rl 0
    simp only [rdE_in, rdN_in, rdV_in, txtE_in, txtN_ind hl, lsE_in, lsN_in hl] at *
    have hB := lsB_t.1 (by assumption : lsB (ρ.z.rl 0) (ρ.i .i64 1) = true)
    first
      | (have q := ls_no (L := (ρ.z.rl 0)) (m := (ρ.i .i64 1)) (by assumption); omega)
      | (have q := ls_long (L := (ρ.z.rl 0)) (m := (ρ.i .i64 1)) (by assumption) (by omega); omega)
theorem vcrlR0_0 : VC TTrlR invrlR msrlR 0 (startF 35 cRListR.pat (.lit true :: cRListR.pre)) wrlR0_0 := by
  intro ρ kn hi hp
  have hF : ρ.z.F = oct.Φ := kn.F
  simp only [h_nil, h_cons, d_le, d_eq, d_not, d_var, d_lit, d_cel, d_leq, d_fn, d_and, d_iff, IE.den, LE.den, AL.den, lenV, true_and, and_true, pcrlR0_2, pcrlR0_1, pcrlR0_0, hF, pi2, pi3, pi4, pi5, pi6, pi7, pl1, pi8, pi9, pl3, pi10, pi11, pb1, pl2] at hp
  obtain ⟨p1, p2, p3, p4, p5, p6, p7, p8⟩ := hp
  refine (show ((rdV (ρ.z.rl 0) ≤ (ρ.i .i64 1) ∨ rdV (ρ.z.rl 0) ≤ 0) ∧ (ρ.z.rl 0).length ≤ 2000) ∧ (((ρ.z.rl 0).length + 2 : Nat) < (ρ.z.rl 0).length + 3) from ?_)
  have hl := kn.ok.rl 0
  simp only [rdE_in, rdN_in, rdV_in, txtE_in, txtN_ind hl, lsE_in, lsN_in hl] at *
  exact ⟨⟨by omega, by omega⟩, by omega⟩
theorem vcrlR0_2 : VC TTrlR invrlR msrlR 0 (startF 35 cRListR.pat (.lit true :: cRListR.pre)) wrlR0_2 := by
  intro ρ kn hi hp
  have hF : ρ.z.F = oct.Φ := kn.F
  simp only [h_nil, h_cons, d_le, d_eq, d_not, d_var, d_lit, d_cel, d_leq, d_fn, d_and, d_iff, IE.den, LE.den, AL.den, lenV, true_and, and_true, pcrlR0_3, pcrlR0_1, pcrlR0_0, hF, pi2, pi3, pi4, pi5, pi6, pi7, pl1, pi8, pi9, pl3, pi10, pi11, pb1, pl2] at hp
  obtain ⟨p1, p2, p3, p4, p5, p6, p7, p8⟩ := hp
  refine (show ((rdV (ρ.z.rl 0) ≤ (ρ.i .i64 1) ∨ rdV (ρ.z.rl 0) ≤ 0) ∧ (ρ.z.rl 0).length ≤ 2000) ∧ (((ρ.z.rl 0).length + 2 : Nat) < (ρ.z.rl 0).length + 3) from ?_)
  have hl := kn.ok.rl 0
  simp only [rdE_in, rdN_in, rdV_in, txtE_in, txtN_ind hl, lsE_in, lsN_in hl] at *
  exact ⟨⟨by omega, by omega⟩, by omega⟩
def ivrlR1 (ρ : Rho) : Prop := (rdV (ρ.z.rl 0) ≤ (ρ.i .i64 1) ∨ rdV (ρ.z.rl 0) ≤ 0) ∧ (ρ.z.rl 0).length ≤ 2000
theorem vcgrlR1_0 : VC TTrlR invrlR msrlR 1 trlR1 wrlR1_0 ∧ VC TTrlR invrlR msrlR 1 trlR1 wrlR1_1 ∧ VC TTrlR invrlR msrlR 1 trlR1 wrlR1_3 ∧ VC TTrlR invrlR msrlR 1 trlR1 wrlR1_4 := by
  refine ⟨?_, ?_, ?_, ?_⟩
  all_goals
    intro ρ kn hi hp
    have hi : ivrlR1 ρ := hi
    unfold ivrlR1 at hi
    have hF : ρ.z.F = oct.Φ := kn.F
    simp only [h_nil, h_cons, d_le, d_eq, d_not, d_var, d_lit, d_cel, d_leq, d_fn, d_and, d_iff, IE.den, LE.den, AL.den, lenV, true_and, and_true, pcrlR1_0, pcrlR1_1, pcrlR1_3, pcrlR1_2, hF, pi2, pi3, pi4, pi5, pi6, pi7, pl1, pi8, pi9, pl3, pi10, pi11, pb1, pl2] at hp
    have p1 := And.left hp
    replace hp := And.right hp
    repeat (have _ := And.left hp; replace hp := And.right hp)
    exfalso
    have hl := kn.ok.rl 0
    simp only [rdE_in, rdN_in, rdV_in, txtE_in, txtN_ind hl, lsE_in, lsN_in hl] at *
    have hB := lsB_t.1 (by assumption : lsB (ρ.z.rl 0) (ρ.i .i64 1) = true)
    obtain ⟨h1, h2⟩ := hi
    first
      | omega
      | skip
    all_goals
      have t := tx0 (L := (ρ.z.rl 0)) (a := rdN (ρ.z.rl 0)) (by assumption) rfl
      first
      | (have q := tx_err (m := (ρ.i .i64 1)) t (by omega) h1 (txtE_nil (L := (ρ.z.rl 0)) (a := rdN (ρ.z.rl 0)) (by omega)).symm (by decide)
         omega)
      | (have q := tx_err (m := (ρ.i .i64 1)) t (by omega) h1 (e := txtE (List.drop (rdN (ρ.z.rl 0)).toNat (ρ.z.rl 0))) rfl (by omega)
         omega)
theorem vcrlR1_2 : VC TTrlR invrlR msrlR 1 trlR1 wrlR1_2 := by
  intro ρ kn hi hp
  have hi : ivrlR1 ρ := hi
  unfold ivrlR1 at hi
  have hF : ρ.z.F = oct.Φ := kn.F
  simp only [h_nil, h_cons, d_le, d_eq, d_not, d_var, d_lit, d_cel, d_leq, d_fn, d_and, d_iff, IE.den, LE.den, AL.den, lenV, true_and, and_true, pcrlR1_3, pcrlR1_2, pcrlR1_1, pcrlR1_0, hF, pi2, pi3, pi4, pi5, pi6, pi7, pl1, pi8, pi9, pl3, pi10, pi11, pb1, pl2] at hp
  obtain ⟨p1, p2, p3, p4, p5, p6, p7, p8, p9, p10, p11, p12, p13⟩ := hp
  refine (show (Tx (ρ.z.rl 0) (1 : Int) ((clampK .i64 (ρ.z.F.i 4 [.lst (ρ.z.rl 0)])) + (clampK .i64 (ρ.z.F.i 8 [.lst ((ρ.z.rl 0).drop (clampK .i64 (ρ.z.F.i 4 [.lst (ρ.z.rl 0)])).toNat)]))) ∧ ([[Go.Value.string (byteL (ρ.z.F.l 3 [.lst ((ρ.z.rl 0).drop (clampK .i64 (ρ.z.F.i 4 [.lst (ρ.z.rl 0)])).toNat)]))]] : LV) = txsT (ρ.z.rl 0) (1 : Int).toNat ∧ (1 : Int) ≤ rdV (ρ.z.rl 0) ∧ (rdV (ρ.z.rl 0) ≤ (ρ.i .i64 1) ∨ rdV (ρ.z.rl 0) ≤ 0) ∧ (ρ.z.rl 0).length ≤ 2000) ∧ (((ρ.z.rl 0).length + 1 - (1 : Int).toNat : Nat) < (ρ.z.rl 0).length + 2) from ?_)
  simp only [hF, pi2, pi3, pi4, pi5, pi6, pi7, pl1, pi8, pi9, pl3, pi10, pi11, pb1, pl2]
  have hl := kn.ok.rl 0
  simp only [rdE_in, rdN_in, rdV_in, txtE_in, txtN_ind hl, lsE_in, lsN_in hl] at *
  obtain ⟨h1, h2⟩ := hi
  have t := txs (tx0 (L := (ρ.z.rl 0)) (a := rdN (ρ.z.rl 0)) (by assumption) rfl) (by assumption)
  exact ⟨⟨t, txs_s (tx0 (L := (ρ.z.rl 0)) (a := rdN (ρ.z.rl 0)) (by assumption) rfl) (W := []) rfl, by omega, h1, h2⟩, by omega⟩
def ivrlR2 (ρ : Rho) : Prop := Tx (ρ.z.rl 0) (ρ.i .i64 1001) (ρ.i .i64 1000) ∧ (ρ.l 1002) = txsT (ρ.z.rl 0) (ρ.i .i64 1001).toNat ∧ (ρ.i .i64 1001) ≤ rdV (ρ.z.rl 0) ∧ (rdV (ρ.z.rl 0) ≤ (ρ.i .i64 1) ∨ rdV (ρ.z.rl 0) ≤ 0) ∧ (ρ.z.rl 0).length ≤ 2000
theorem vcgrlR2_1 : VC TTrlR invrlR msrlR 2 trlR2 wrlR2_1 ∧ VC TTrlR invrlR msrlR 2 trlR2 wrlR2_3 ∧ VC TTrlR invrlR msrlR 2 trlR2 wrlR2_4 := by
  refine ⟨?_, ?_, ?_⟩
  all_goals
    intro ρ kn hi hp
    have hi : ivrlR2 ρ := hi
    unfold ivrlR2 at hi
    have hr2 : Typed [CK.str] (ρ.l 1002) ∧ (ρ.i .i64 1001) = (((ρ.l 1002)).length : Int) := kn.rows 2 _ _ _ _ _ _ rfl
    have hF : ρ.z.F = oct.Φ := kn.F
    simp only [h_nil, h_cons, d_le, d_eq, d_not, d_var, d_lit, d_cel, d_leq, d_fn, d_and, d_iff, IE.den, LE.den, AL.den, lenV, true_and, and_true, pcrlR2_1, pcrlR2_0, pcrlR2_3, pcrlR2_2, hF, pi2, pi3, pi4, pi5, pi6, pi7, pl1, pi8, pi9, pl3, pi10, pi11, pb1, pl2] at hp
    have p1 := And.left hp
    replace hp := And.right hp
    repeat (have _ := And.left hp; replace hp := And.right hp)
    exfalso
    all_goals
      have hl := kn.ok.rl 0
      simp only [rdE_in, rdN_in, rdV_in, txtE_in, txtN_ind hl, lsE_in, lsN_in hl] at *
      have hB' : lsB (ρ.z.rl 0) (ρ.i .i64 1) = true := by assumption
      have hB := lsB_t.1 hB'
      obtain ⟨t, hw, h0, h1, h2⟩ := hi
      have k2 := tx_rng t
      have hr : Typed _ (ρ.l 1002) ∧ ρ.i .i64 1001 = ((ρ.l 1002).length : Int) := kn.rows 2 _ _ _ _ _ _ rfl
      first
        | (have q := tx_end (m := (ρ.i .i64 1)) t (by omega) h1
           have e : ρ.i .i64 1001 = rdV (ρ.z.rl 0) := by omega
           first
             | (rw [lsL_t hB', hw, e]; done)
             | (rw [lsL_t hB', txs_len]; omega)
             | omega)
        | (have q := tx_err (m := (ρ.i .i64 1)) t (by omega) h1 (txtE_nil (L := (ρ.z.rl 0)) (a := ρ.i .i64 1000) (by omega)).symm (by decide)
           omega)
        | (have q := tx_err (m := (ρ.i .i64 1)) t (by omega) h1 (e := txtE (List.drop (ρ.i .i64 1000).toNat (ρ.z.rl 0))) rfl (by omega)
           omega)
theorem vcrlR2_0 : VC TTrlR invrlR msrlR 2 trlR2 wrlR2_0 := by
  intro ρ kn hi hp
  have hi : ivrlR2 ρ := hi
  unfold ivrlR2 at hi
  have hr2 : Typed [CK.str] (ρ.l 1002) ∧ (ρ.i .i64 1001) = (((ρ.l 1002)).length : Int) := kn.rows 2 _ _ _ _ _ _ rfl
  have hF : ρ.z.F = oct.Φ := kn.F
  simp only [h_nil, h_cons, d_le, d_eq, d_not, d_var, d_lit, d_cel, d_leq, d_fn, d_and, d_iff, IE.den, LE.den, AL.den, lenV, true_and, and_true, pcrlR2_0, hF, pi2, pi3, pi4, pi5, pi6, pi7, pl1, pi8, pi9, pl3, pi10, pi11, pb1, pl2] at hp
  obtain ⟨p1, p2, p3, p4, p5, p6, p7, p8, p9, p10, p11, p12, p13, p14, p15, p16, p17, p18, p19⟩ := hp
  refine all_cons (show (((ρ.z.F.l 2 [.lst (ρ.z.rl 0), .int .i64 (ρ.i .i64 1)]).length : Nat) : Int) = (ρ.i .i64 1001) from ?_) (all_cons (show (clampK .i64 (ρ.z.F.i 11 [.lst (ρ.z.rl 0), .int .i64 (ρ.i .i64 1)])) = (ρ.i .i64 1000) from ?_) (all_cons (show (ρ.z.F.l 2 [.lst (ρ.z.rl 0), .int .i64 (ρ.i .i64 1)]) = (ρ.l 1002) from ?_) (all_cons (show (((ρ.z.F.l 2 [.lst (ρ.z.rl 0), .int .i64 (ρ.i .i64 1)]).length : Nat) : Int) = (ρ.i .i64 1001) from ?_) (all_nil))))
  all_goals try simp only [hF, pi2, pi3, pi4, pi5, pi6, pi7, pl1, pi8, pi9, pl3, pi10, pi11, pb1, pl2]
  all_goals
    have hl := kn.ok.rl 0
    simp only [rdE_in, rdN_in, rdV_in, txtE_in, txtN_ind hl, lsE_in, lsN_in hl] at *
    have hB' : lsB (ρ.z.rl 0) (ρ.i .i64 1) = true := by assumption
    have hB := lsB_t.1 hB'
    obtain ⟨t, hw, h0, h1, h2⟩ := hi
    have k2 := tx_rng t
    have hr : Typed _ (ρ.l 1002) ∧ ρ.i .i64 1001 = ((ρ.l 1002).length : Int) := kn.rows 2 _ _ _ _ _ _ rfl
    first
      | (have q := tx_end (m := (ρ.i .i64 1)) t (by omega) h1
         have e : ρ.i .i64 1001 = rdV (ρ.z.rl 0) := by omega
         first
           | (rw [lsL_t hB', hw, e]; done)
           | (rw [lsL_t hB', txs_len]; omega)
           | omega)
      | (have q := tx_err (m := (ρ.i .i64 1)) t (by omega) h1 (txtE_nil (L := (ρ.z.rl 0)) (a := ρ.i .i64 1000) (by omega)).symm (by decide)
         omega)
      | (have q := tx_err (m := (ρ.i .i64 1)) t (by omega) h1 (e := txtE (List.drop (ρ.i .i64 1000).toNat (ρ.z.rl 0))) rfl (by omega)
         omega)
theorem vcrlR2_2 : VC TTrlR invrlR msrlR 2 trlR2 wrlR2_2 := by
  intro ρ kn hi hp
  have hi : ivrlR2 ρ := hi
  unfold ivrlR2 at hi
  have hF : ρ.z.F = oct.Φ := kn.F
  simp only [h_nil, h_cons, d_le, d_eq, d_not, d_var, d_lit, d_cel, d_leq, d_fn, d_and, d_iff, IE.den, LE.den, AL.den, lenV, true_and, and_true, pcrlR2_3, pcrlR2_2, pcrlR2_1, pcrlR2_0, hF, pi2, pi3, pi4, pi5, pi6, pi7, pl1, pi8, pi9, pl3, pi10, pi11, pb1, pl2] at hp
  obtain ⟨p1, p2, p3, p4, p5, p6, p7, p8, p9, p10, p11, p12, p13, p14, p15, p16, p17, p18, p19, p20, p21, p22, p23, p24⟩ := hp
  refine (show (Tx (ρ.z.rl 0) ((ρ.i .i64 1001) + (1 : Int)) ((ρ.i .i64 1000) + (clampK .i64 (ρ.z.F.i 8 [.lst ((ρ.z.rl 0).drop (ρ.i .i64 1000).toNat)]))) ∧ ((ρ.l 1002) ++ ([[Go.Value.string (byteL (ρ.z.F.l 3 [.lst ((ρ.z.rl 0).drop (ρ.i .i64 1000).toNat)]))]] : LV)) = txsT (ρ.z.rl 0) ((ρ.i .i64 1001) + (1 : Int)).toNat ∧ ((ρ.i .i64 1001) + (1 : Int)) ≤ rdV (ρ.z.rl 0) ∧ (rdV (ρ.z.rl 0) ≤ (ρ.i .i64 1) ∨ rdV (ρ.z.rl 0) ≤ 0) ∧ (ρ.z.rl 0).length ≤ 2000) ∧ (((ρ.z.rl 0).length + 1 - ((ρ.i .i64 1001) + (1 : Int)).toNat : Nat) < (ρ.z.rl 0).length + 1 - (ρ.i .i64 1001).toNat) from ?_)
  simp only [hF, pi2, pi3, pi4, pi5, pi6, pi7, pl1, pi8, pi9, pl3, pi10, pi11, pb1, pl2]
  have hl := kn.ok.rl 0
  simp only [rdE_in, rdN_in, rdV_in, txtE_in, txtN_ind hl, lsE_in, lsN_in hl] at *
  obtain ⟨t, hw, h0, h1, h2⟩ := hi
  have k1 := tx_le t
  have k2 := tx_rng t
  have k3 := t.n0
  exact ⟨⟨txs t (by assumption), txs_s t hw, by omega, h1, h2⟩, by omega⟩
theorem vcsrlR0 : ∀ v ∈ vwrlR 0, VC TTrlR invrlR msrlR 0 (startF 35 cRListR.pat (.lit true :: cRListR.pre)) v := all_cons vcrlR0_0 (all_cons vcgrlR0_0.1 (all_cons vcrlR0_2 (all_cons vcgrlR0_0.2.1 (all_cons vcgrlR0_0.2.2 (all_nil)))))
theorem okrlR0 : cfgOk (startF 35 cRListR.pat (.lit true :: cRListR.pre)) = true := by kernel_rfl
theorem sgrlR0 : segL cRListR.roms cRListR (seg TTrlR selrlR 400 tmrlR (startF 35 cRListR.pat (.lit true :: cRListR.pre))) = (true, codesR tmrlR (views (seg TTrlR selrlR 400 tmrlR (startF 35 cRListR.pat (.lit true :: cRListR.pre)))), vwrlR 0) := by kernel_rfl
theorem vcsrlR1 : ∀ v ∈ vwrlR 1, VC TTrlR invrlR msrlR 1 trlR1 v := all_cons vcgrlR1_0.1 (all_cons vcgrlR1_0.2.1 (all_cons vcrlR1_2 (all_cons vcgrlR1_0.2.2.1 (all_cons vcgrlR1_0.2.2.2 (all_nil)))))
theorem okrlR1 : cfgOk trlR1 = true := by kernel_rfl
theorem sgrlR1 : segL cRListR.roms cRListR (seg TTrlR selrlR 400 tmrlR trlR1) = (true, codesR tmrlR (views (seg TTrlR selrlR 400 tmrlR trlR1)), vwrlR 1) := by kernel_rfl
theorem vcsrlR2 : ∀ v ∈ vwrlR 2, VC TTrlR invrlR msrlR 2 trlR2 v := all_cons vcrlR2_0 (all_cons vcgrlR2_1.1 (all_cons vcrlR2_2 (all_cons vcgrlR2_1.2.1 (all_cons vcgrlR2_1.2.2 (all_nil)))))
theorem okrlR2 : cfgOk trlR2 = true := by kernel_rfl
theorem sgrlR2 : segL cRListR.roms cRListR (seg TTrlR selrlR 400 tmrlR trlR2) = (true, codesR tmrlR (views (seg TTrlR selrlR 400 tmrlR trlR2)), vwrlR 2) := by kernel_rfl
theorem lnrlR0 : ∀ ρ, Known TTrlR (startF 35 cRListR.pat (.lit true :: cRListR.pre)) ρ → invrlR 0 ρ.lt → Holds ρ (leanOf (Cfg.pc (startF 35 cRListR.pat (.lit true :: cRListR.pre)))) := by
  intro ρ _ _
  exact (show Holds ρ [] from fun p hp => by cases hp)
theorem lnrlR1 : ∀ ρ, Known TTrlR trlR1 ρ → invrlR 1 ρ.lt → Holds ρ (leanOf (Cfg.pc trlR1)) := by
  intro ρ kn hi
  refine (show Holds ρ [.le (ln 0) (.rcap 0)] from ?_)
  have hi : (rdV (ρ.z.rl 0) ≤ (ρ.i .i64 1) ∨ rdV (ρ.z.rl 0) ≤ 0) ∧ (ρ.z.rl 0).length ≤ 2000 := hi
  have hF : ρ.z.F = oct.Φ := kn.F
  simp only [h_nil, h_cons, d_le, d_eq, d_not, d_var, d_lit, d_cel, d_leq, d_fn, d_and, d_iff, IE.den, LE.den, AL.den, lenV, true_and, and_true, hF, pi2, pi3, pi4, pi5, pi6, pi7, pl1, pi8, pi9, pl3, pi10, pi11, pb1, pl2]
  have hc := kn.cap 0 _ _ rfl
  simp only [ln, IE.den, LE.den, lenV]
  omega
theorem lnrlR2 : ∀ ρ, Known TTrlR trlR2 ρ → invrlR 2 ρ.lt → Holds ρ (leanOf (Cfg.pc trlR2)) := by
  intro ρ kn hi
  refine (show Holds ρ [.le (ln 0) (.rcap 0), .le (.var .i64 1001) (.lit 2000)] from ?_)
  have hi : Tx (ρ.z.rl 0) (ρ.i .i64 1001) (ρ.i .i64 1000) ∧ (ρ.l 1002) = txsT (ρ.z.rl 0) (ρ.i .i64 1001).toNat ∧ (ρ.i .i64 1001) ≤ rdV (ρ.z.rl 0) ∧ (rdV (ρ.z.rl 0) ≤ (ρ.i .i64 1) ∨ rdV (ρ.z.rl 0) ≤ 0) ∧ (ρ.z.rl 0).length ≤ 2000 := hi
  have hF : ρ.z.F = oct.Φ := kn.F
  simp only [h_nil, h_cons, d_le, d_eq, d_not, d_var, d_lit, d_cel, d_leq, d_fn, d_and, d_iff, IE.den, LE.den, AL.den, lenV, true_and, and_true, hF, pi2, pi3, pi4, pi5, pi6, pi7, pl1, pi8, pi9, pl3, pi10, pi11, pb1, pl2]
  have hc := kn.cap 0 _ _ rfl
  obtain ⟨t, hw, h1, h2, h3⟩ := hi
  have k1 := tx_le t
  have k2 := tx_rng t
  simp only [ln, IE.den, LE.den, lenV, and_true]
  omega
theorem told_rlR : Sx.Told oct.Φ cRListR := by
  refine told_of (cs := [cRRead, cRReadT, cRReadTe]) (all_cons told_rread (all_cons told_rreadt (all_cons told_rte (all_nil)))) (sel := selrlR) 400 tmrlR invrlR msrlR vwrlR 0 (pc0 := (.lit true :: cRListR.pre)) (by kernel_rfl) (by kernel_rfl) (by kernel_rfl) post_rlR ?_ ?_ ?_ rfl (fun ρ _ h => h.cons (p := .lit true) (by simp only [BE.den])) (fun _ _ _ _ => trivial) ?_
  · intro k C h
    have := lk_mem h
    simp only [tmrlR, List.mem_cons, Prod.mk.injEq, List.not_mem_nil, or_false] at this
    rcases this with ⟨rfl, rfl⟩ | ⟨rfl, rfl⟩ | ⟨rfl, rfl⟩
    · exact okrlR0
    · exact okrlR1
    · exact okrlR2
  · intro k C h
    have := lk_mem h
    simp only [tmrlR, List.mem_cons, Prod.mk.injEq, List.not_mem_nil, or_false] at this
    rcases this with ⟨rfl, rfl⟩ | ⟨rfl, rfl⟩ | ⟨rfl, rfl⟩
    · exact sgrlR0
    · exact sgrlR1
    · exact sgrlR2
  · intro k C h
    have := lk_mem h
    simp only [tmrlR, List.mem_cons, Prod.mk.injEq, List.not_mem_nil, or_false] at this
    rcases this with ⟨rfl, rfl⟩ | ⟨rfl, rfl⟩ | ⟨rfl, rfl⟩
    · exact vcsrlR0
    · exact vcsrlR1
    · exact vcsrlR2
  · intro k C h
    have := lk_mem h
    simp only [tmrlR, List.mem_cons, Prod.mk.injEq, List.not_mem_nil, or_false] at this
    rcases this with ⟨rfl, rfl⟩ | ⟨rfl, rfl⟩ | ⟨rfl, rfl⟩
    · exact lnrlR0
    · exact lnrlR1
    · exact lnrlR2
noncomputable section
abbrev TTrlN : Tab := T oct.Φ cRListN.roms [cRRead, cRReadT, cRReadTe]
def trlN1 : Cfg := { top := ⟨35, over (opqS 10000 53) [(0, (SV.rom 0 (IE.lit 0) (IE.len (LE.rom 0)) none)), (7, (SV.int .u64 (IE.fn .u64 3 (AL.lst (LE.rom 0) AL.nil)))), (8, (SV.int .i64 (IE.fn .i64 4 (AL.lst (LE.rom 0) AL.nil)))), (10, (SV.const (Go.Value.slice none 0 0)))], ogt (loopTodo (bodyOf (T oct.Φ [] []) 35) 0), [], false, none⟩, rest := [], heap := [], next := 1, pc := .lit true :: ([] ++ [(BE.le (IE.len (LE.rom 0)) (IE.lit 2000)), (BE.le (IE.lit 1) (IE.len (LE.rom 0))), (BE.not (BE.fn 1 (AL.lst (LE.rom 0) (AL.int .i64 (IE.var .i64 1) AL.nil)))), (BE.le (IE.fn .i64 4 (AL.lst (LE.rom 0) AL.nil)) (IE.len (LE.rom 0))), (BE.le (IE.lit 0) (IE.fn .i64 4 (AL.lst (LE.rom 0) AL.nil))), (BE.eq (IE.fn .i64 5 (AL.lst (LE.rom 0) AL.nil)) (IE.lit 0))] ++ (.and (.lit true) (.lit true)) :: [.le (ln 0) (.rcap 0)]) }
def trlN2 : Cfg := { top := ⟨35, over (opqS 10000 53) [(0, (SV.rom 0 (IE.lit 0) (IE.len (LE.rom 0)) none)), (7, (SV.int .u64 (IE.fn .u64 3 (AL.lst (LE.rom 0) AL.nil)))), (8, (SV.int .i64 (IE.var .i64 1000))), (10, (SV.sll 2 3 1 (IE.lit 0) (IE.var .i64 1001) none))], ogt (loopTodo (bodyOf (T oct.Φ [] []) 35) 0), [], false, none⟩, rest := [], heap := [(2, .rowl (LE.var 1002) (IE.var .i64 1001) [CK.str] 9 3 1)], next := 4, pc := .lit true :: ([] ++ [(BE.le (IE.len (LE.rom 0)) (IE.rcap 0)), (BE.eq (IE.fn .i64 5 (AL.lst (LE.rom 0) AL.nil)) (IE.lit 0)), (BE.le (IE.lit 0) (IE.fn .i64 4 (AL.lst (LE.rom 0) AL.nil))), (BE.le (IE.fn .i64 4 (AL.lst (LE.rom 0) AL.nil)) (IE.len (LE.rom 0))), (BE.not (BE.fn 1 (AL.lst (LE.rom 0) (AL.int .i64 (IE.var .i64 1) AL.nil)))), (BE.le (IE.lit 1) (IE.len (LE.rom 0))), (BE.le (IE.len (LE.rom 0)) (IE.lit 2000)), (BE.not (BE.le (IE.fn .u64 3 (AL.lst (LE.rom 0) AL.nil)) (IE.lit 0))), (BE.not (BE.eq (IE.rcap 0) (IE.fn .i64 4 (AL.lst (LE.rom 0) AL.nil)))), (BE.le (IE.lit 1) (IE.sub (IE.len (LE.rom 0)) (IE.fn .i64 4 (AL.lst (LE.rom 0) AL.nil)))), (BE.le (IE.fn .i64 8 (AL.lst (LE.drop (LE.rom 0) (IE.fn .i64 4 (AL.lst (LE.rom 0) AL.nil))) AL.nil)) (IE.sub (IE.len (LE.rom 0)) (IE.fn .i64 4 (AL.lst (LE.rom 0) AL.nil)))), (BE.le (IE.lit 0) (IE.fn .i64 8 (AL.lst (LE.drop (LE.rom 0) (IE.fn .i64 4 (AL.lst (LE.rom 0) AL.nil))) AL.nil))), (BE.eq (IE.fn .i64 9 (AL.lst (LE.drop (LE.rom 0) (IE.fn .i64 4 (AL.lst (LE.rom 0) AL.nil))) AL.nil)) (IE.lit 0)), (BE.le (IE.lit 0) (IE.var .i64 1000)), (BE.le (IE.var .i64 1000) (IE.len (LE.rom 0))), (BE.le (IE.lit 0) (IE.var .i64 1001))] ++ (.and (.lit true) (.lit true)) :: [.le (ln 0) (.rcap 0), .le (.var .i64 1001) (.lit 2000)]) }
def tmrlN : List (Nat × Cfg) := [(0, startF 35 cRListN.pat (.lit true :: cRListN.pre)), (1, trlN1), (2, trlN2)]
def selrlN : Sel := [(35, 1, 1281000, 1), (35, 1, 1282000, 2)]
def pcrlN0_0 : List BE := [(BE.le (IE.lit 0) (IE.fn .i64 4 (AL.lst (LE.rom 0) AL.nil))), (BE.le (IE.fn .i64 4 (AL.lst (LE.rom 0) AL.nil)) (IE.len (LE.rom 0))), (BE.lit true), (BE.not (BE.fn 1 (AL.lst (LE.rom 0) (AL.int .i64 (IE.var .i64 1) AL.nil)))), (BE.le (IE.lit 1) (IE.len (LE.rom 0))), (BE.le (IE.len (LE.rom 0)) (IE.lit 2000))]
def pcrlN0_1 : List BE := ((BE.eq (IE.fn .i64 5 (AL.lst (LE.rom 0) AL.nil)) (IE.lit 0)) :: pcrlN0_0)
def pcrlN0_2 : List BE := ((BE.le (IE.lit 0) (IE.var .i64 1)) :: pcrlN0_1)
def pcrlN0_3 : List BE := ((BE.not (BE.le (IE.lit 0) (IE.var .i64 1))) :: pcrlN0_1)
def wrlN0_0 : VW := (VW.cut 1 ((BE.le (IE.fn .u64 3 (AL.lst (LE.rom 0) AL.nil)) (IE.var .i64 1)) :: pcrlN0_2) (Sx.Sub.mk [] [] [] [] [] []))
def wrlN0_1 : VW := (VW.done ((BE.not (BE.le (IE.fn .u64 3 (AL.lst (LE.rom 0) AL.nil)) (IE.var .i64 1))) :: pcrlN0_2) (some [(G.i (IE.fn .i64 11 (AL.lst (LE.rom 0) (AL.int .i64 (IE.var .i64 1) AL.nil))) (IE.lit 0)), (G.i (IE.fn .i64 10 (AL.lst (LE.rom 0) (AL.int .i64 (IE.var .i64 1) AL.nil))) (IE.lit 3))]))
def wrlN0_2 : VW := (VW.cut 1 ((BE.le (IE.fn .u64 3 (AL.lst (LE.rom 0) AL.nil)) (IE.lit 0)) :: pcrlN0_3) (Sx.Sub.mk [] [] [] [] [] []))
def wrlN0_3 : VW := (VW.done ((BE.not (BE.le (IE.fn .u64 3 (AL.lst (LE.rom 0) AL.nil)) (IE.lit 0))) :: pcrlN0_3) (some [(G.i (IE.fn .i64 11 (AL.lst (LE.rom 0) (AL.int .i64 (IE.var .i64 1) AL.nil))) (IE.lit 0)), (G.i (IE.fn .i64 10 (AL.lst (LE.rom 0) (AL.int .i64 (IE.var .i64 1) AL.nil))) (IE.lit 3))]))
def wrlN0_4 : VW := (VW.done ((BE.not (BE.eq (IE.fn .i64 5 (AL.lst (LE.rom 0) AL.nil)) (IE.lit 0))) :: pcrlN0_0) (some [(G.i (IE.fn .i64 11 (AL.lst (LE.rom 0) (AL.int .i64 (IE.var .i64 1) AL.nil))) (IE.lit 0)), (G.i (IE.fn .i64 10 (AL.lst (LE.rom 0) (AL.int .i64 (IE.var .i64 1) AL.nil))) (IE.fn .i64 5 (AL.lst (LE.rom 0) AL.nil)))]))
def vwrlN0 : List VW := [wrlN0_0, wrlN0_1, wrlN0_2, wrlN0_3, wrlN0_4]
def pcrlN1_0 : List BE := [(BE.lit true), (BE.le (IE.len (LE.rom 0)) (IE.lit 2000)), (BE.le (IE.lit 1) (IE.len (LE.rom 0))), (BE.not (BE.fn 1 (AL.lst (LE.rom 0) (AL.int .i64 (IE.var .i64 1) AL.nil)))), (BE.le (IE.fn .i64 4 (AL.lst (LE.rom 0) AL.nil)) (IE.len (LE.rom 0))), (BE.le (IE.lit 0) (IE.fn .i64 4 (AL.lst (LE.rom 0) AL.nil))), (BE.eq (IE.fn .i64 5 (AL.lst (LE.rom 0) AL.nil)) (IE.lit 0)), (BE.and (BE.lit true) (BE.lit true)), (BE.le (IE.len (LE.rom 0)) (IE.rcap 0))]
def pcrlN1_1 : List BE := ((BE.not (BE.le (IE.fn .u64 3 (AL.lst (LE.rom 0) AL.nil)) (IE.lit 0))) :: pcrlN1_0)
def pcrlN1_2 : List BE := ((BE.not (BE.eq (IE.rcap 0) (IE.fn .i64 4 (AL.lst (LE.rom 0) AL.nil)))) :: pcrlN1_1)
def pcrlN1_3 : List BE := ((BE.le (IE.lit 0) (IE.fn .i64 8 (AL.lst (LE.drop (LE.rom 0) (IE.fn .i64 4 (AL.lst (LE.rom 0) AL.nil))) AL.nil))) :: (BE.le (IE.fn .i64 8 (AL.lst (LE.drop (LE.rom 0) (IE.fn .i64 4 (AL.lst (LE.rom 0) AL.nil))) AL.nil)) (IE.sub (IE.len (LE.rom 0)) (IE.fn .i64 4 (AL.lst (LE.rom 0) AL.nil)))) :: (BE.le (IE.lit 1) (IE.sub (IE.len (LE.rom 0)) (IE.fn .i64 4 (AL.lst (LE.rom 0) AL.nil)))) :: pcrlN1_2)
def wrlN1_0 : VW := (VW.done ((BE.le (IE.fn .u64 3 (AL.lst (LE.rom 0) AL.nil)) (IE.lit 0)) :: pcrlN1_0) (some [(G.i (IE.fn .i64 11 (AL.lst (LE.rom 0) (AL.int .i64 (IE.var .i64 1) AL.nil))) (IE.fn .i64 4 (AL.lst (LE.rom 0) AL.nil))), (G.i (IE.fn .i64 10 (AL.lst (LE.rom 0) (AL.int .i64 (IE.var .i64 1) AL.nil))) (IE.lit 0))]))
def wrlN1_1 : VW := (VW.done ((BE.le (IE.lit 0) (IE.fn .i64 8 (AL.lst (LE.take (LE.rom 0) (IE.sub (IE.len (LE.rom 0)) (IE.fn .i64 4 (AL.lst (LE.rom 0) AL.nil)))) AL.nil))) :: (BE.le (IE.fn .i64 8 (AL.lst (LE.take (LE.rom 0) (IE.sub (IE.len (LE.rom 0)) (IE.fn .i64 4 (AL.lst (LE.rom 0) AL.nil)))) AL.nil)) (IE.lit 0)) :: (BE.eq (IE.fn .i64 9 (AL.lst (LE.take (LE.rom 0) (IE.sub (IE.len (LE.rom 0)) (IE.fn .i64 4 (AL.lst (LE.rom 0) AL.nil)))) AL.nil)) (IE.lit 110)) :: (BE.eq (IE.rcap 0) (IE.fn .i64 4 (AL.lst (LE.rom 0) AL.nil))) :: pcrlN1_1) (some [(G.i (IE.fn .i64 11 (AL.lst (LE.rom 0) (AL.int .i64 (IE.var .i64 1) AL.nil))) (IE.lit 0)), (G.i (IE.fn .i64 10 (AL.lst (LE.rom 0) (AL.int .i64 (IE.var .i64 1) AL.nil))) (IE.fn .i64 9 (AL.lst (LE.take (LE.rom 0) (IE.sub (IE.len (LE.rom 0)) (IE.fn .i64 4 (AL.lst (LE.rom 0) AL.nil)))) AL.nil)))]))
def wrlN1_2 : VW := (VW.cut 2 ((BE.eq (IE.fn .i64 9 (AL.lst (LE.drop (LE.rom 0) (IE.fn .i64 4 (AL.lst (LE.rom 0) AL.nil))) AL.nil)) (IE.lit 0)) :: pcrlN1_3) (Sx.Sub.mk [(.i64, (1001, (IE.lit 1))), (.i64, (1000, (IE.add (IE.fn .i64 4 (AL.lst (LE.rom 0) AL.nil)) (IE.fn .i64 8 (AL.lst (LE.drop (LE.rom 0) (IE.fn .i64 4 (AL.lst (LE.rom 0) AL.nil))) AL.nil)))))] [] [(1002, (LE.one (AL.lst (LE.fn 3 (AL.lst (LE.drop (LE.rom 0) (IE.fn .i64 4 (AL.lst (LE.rom 0) AL.nil))) AL.nil)) AL.nil)))] [] [] []))
def wrlN1_3 : VW := (VW.done ((BE.not (BE.eq (IE.fn .i64 9 (AL.lst (LE.drop (LE.rom 0) (IE.fn .i64 4 (AL.lst (LE.rom 0) AL.nil))) AL.nil)) (IE.lit 0))) :: pcrlN1_3) (some [(G.i (IE.fn .i64 11 (AL.lst (LE.rom 0) (AL.int .i64 (IE.var .i64 1) AL.nil))) (IE.lit 0)), (G.i (IE.fn .i64 10 (AL.lst (LE.rom 0) (AL.int .i64 (IE.var .i64 1) AL.nil))) (IE.fn .i64 9 (AL.lst (LE.drop (LE.rom 0) (IE.fn .i64 4 (AL.lst (LE.rom 0) AL.nil))) AL.nil)))]))
def wrlN1_4 : VW := (VW.done ((BE.le (IE.lit 0) (IE.fn .i64 8 (AL.lst (LE.drop (LE.rom 0) (IE.fn .i64 4 (AL.lst (LE.rom 0) AL.nil))) AL.nil))) :: (BE.le (IE.fn .i64 8 (AL.lst (LE.drop (LE.rom 0) (IE.fn .i64 4 (AL.lst (LE.rom 0) AL.nil))) AL.nil)) (IE.lit 0)) :: (BE.eq (IE.fn .i64 9 (AL.lst (LE.drop (LE.rom 0) (IE.fn .i64 4 (AL.lst (LE.rom 0) AL.nil))) AL.nil)) (IE.lit 110)) :: (BE.not (BE.le (IE.lit 1) (IE.sub (IE.len (LE.rom 0)) (IE.fn .i64 4 (AL.lst (LE.rom 0) AL.nil))))) :: pcrlN1_2) (some [(G.i (IE.fn .i64 11 (AL.lst (LE.rom 0) (AL.int .i64 (IE.var .i64 1) AL.nil))) (IE.lit 0)), (G.i (IE.fn .i64 10 (AL.lst (LE.rom 0) (AL.int .i64 (IE.var .i64 1) AL.nil))) (IE.fn .i64 9 (AL.lst (LE.drop (LE.rom 0) (IE.fn .i64 4 (AL.lst (LE.rom 0) AL.nil))) AL.nil)))]))
def vwrlN1 : List VW := [wrlN1_0, wrlN1_1, wrlN1_2, wrlN1_3, wrlN1_4]
def pcrlN2_0 : List BE := [(BE.lit true), (BE.le (IE.len (LE.rom 0)) (IE.rcap 0)), (BE.eq (IE.fn .i64 5 (AL.lst (LE.rom 0) AL.nil)) (IE.lit 0)), (BE.le (IE.lit 0) (IE.fn .i64 4 (AL.lst (LE.rom 0) AL.nil))), (BE.le (IE.fn .i64 4 (AL.lst (LE.rom 0) AL.nil)) (IE.len (LE.rom 0))), (BE.not (BE.fn 1 (AL.lst (LE.rom 0) (AL.int .i64 (IE.var .i64 1) AL.nil)))), (BE.le (IE.lit 1) (IE.len (LE.rom 0))), (BE.le (IE.len (LE.rom 0)) (IE.lit 2000)), (BE.not (BE.le (IE.fn .u64 3 (AL.lst (LE.rom 0) AL.nil)) (IE.lit 0))), (BE.not (BE.eq (IE.rcap 0) (IE.fn .i64 4 (AL.lst (LE.rom 0) AL.nil)))), (BE.le (IE.lit 1) (IE.sub (IE.len (LE.rom 0)) (IE.fn .i64 4 (AL.lst (LE.rom 0) AL.nil)))), (BE.le (IE.fn .i64 8 (AL.lst (LE.drop (LE.rom 0) (IE.fn .i64 4 (AL.lst (LE.rom 0) AL.nil))) AL.nil)) (IE.sub (IE.len (LE.rom 0)) (IE.fn .i64 4 (AL.lst (LE.rom 0) AL.nil)))), (BE.le (IE.lit 0) (IE.fn .i64 8 (AL.lst (LE.drop (LE.rom 0) (IE.fn .i64 4 (AL.lst (LE.rom 0) AL.nil))) AL.nil))), (BE.eq (IE.fn .i64 9 (AL.lst (LE.drop (LE.rom 0) (IE.fn .i64 4 (AL.lst (LE.rom 0) AL.nil))) AL.nil)) (IE.lit 0)), (BE.le (IE.lit 0) (IE.var .i64 1000)), (BE.le (IE.var .i64 1000) (IE.len (LE.rom 0))), (BE.le (IE.lit 0) (IE.var .i64 1001)), (BE.and (BE.lit true) (BE.lit true)), (BE.le (IE.len (LE.rom 0)) (IE.rcap 0)), (BE.le (IE.var .i64 1001) (IE.lit 2000))]
def pcrlN2_1 : List BE := ((BE.not (BE.le (IE.fn .u64 3 (AL.lst (LE.rom 0) AL.nil)) (IE.var .i64 1001))) :: pcrlN2_0)
def pcrlN2_2 : List BE := ((BE.not (BE.eq (IE.rcap 0) (IE.var .i64 1000))) :: pcrlN2_1)
def pcrlN2_3 : List BE := ((BE.le (IE.lit 0) (IE.fn .i64 8 (AL.lst (LE.drop (LE.rom 0) (IE.var .i64 1000)) AL.nil))) :: (BE.le (IE.fn .i64 8 (AL.lst (LE.drop (LE.rom 0) (IE.var .i64 1000)) AL.nil)) (IE.sub (IE.len (LE.rom 0)) (IE.var .i64 1000))) :: (BE.le (IE.lit 1) (IE.sub (IE.len (LE.rom 0)) (IE.var .i64 1000))) :: pcrlN2_2)
def wrlN2_0 : VW := (VW.done ((BE.le (IE.fn .u64 3 (AL.lst (LE.rom 0) AL.nil)) (IE.var .i64 1001)) :: pcrlN2_0) (some [(G.b (BE.lit true) (BE.lit false))]))
def wrlN2_1 : VW := (VW.done ((BE.le (IE.lit 0) (IE.fn .i64 8 (AL.lst (LE.take (LE.rom 0) (IE.sub (IE.len (LE.rom 0)) (IE.var .i64 1000))) AL.nil))) :: (BE.le (IE.fn .i64 8 (AL.lst (LE.take (LE.rom 0) (IE.sub (IE.len (LE.rom 0)) (IE.var .i64 1000))) AL.nil)) (IE.lit 0)) :: (BE.eq (IE.fn .i64 9 (AL.lst (LE.take (LE.rom 0) (IE.sub (IE.len (LE.rom 0)) (IE.var .i64 1000))) AL.nil)) (IE.lit 110)) :: (BE.eq (IE.rcap 0) (IE.var .i64 1000)) :: pcrlN2_1) (some [(G.i (IE.fn .i64 11 (AL.lst (LE.rom 0) (AL.int .i64 (IE.var .i64 1) AL.nil))) (IE.lit 0)), (G.i (IE.fn .i64 10 (AL.lst (LE.rom 0) (AL.int .i64 (IE.var .i64 1) AL.nil))) (IE.fn .i64 9 (AL.lst (LE.take (LE.rom 0) (IE.sub (IE.len (LE.rom 0)) (IE.var .i64 1000))) AL.nil)))]))
def wrlN2_2 : VW := (VW.cut 2 ((BE.eq (IE.fn .i64 9 (AL.lst (LE.drop (LE.rom 0) (IE.var .i64 1000)) AL.nil)) (IE.lit 0)) :: pcrlN2_3) (Sx.Sub.mk [(.i64, (1001, (IE.add (IE.var .i64 1001) (IE.lit 1)))), (.i64, (1000, (IE.add (IE.var .i64 1000) (IE.fn .i64 8 (AL.lst (LE.drop (LE.rom 0) (IE.var .i64 1000)) AL.nil)))))] [] [(1002, (LE.cat (LE.var 1002) (LE.one (AL.lst (LE.fn 3 (AL.lst (LE.drop (LE.rom 0) (IE.var .i64 1000)) AL.nil)) AL.nil))))] [] [] []))
def wrlN2_3 : VW := (VW.done ((BE.not (BE.eq (IE.fn .i64 9 (AL.lst (LE.drop (LE.rom 0) (IE.var .i64 1000)) AL.nil)) (IE.lit 0))) :: pcrlN2_3) (some [(G.i (IE.fn .i64 11 (AL.lst (LE.rom 0) (AL.int .i64 (IE.var .i64 1) AL.nil))) (IE.lit 0)), (G.i (IE.fn .i64 10 (AL.lst (LE.rom 0) (AL.int .i64 (IE.var .i64 1) AL.nil))) (IE.fn .i64 9 (AL.lst (LE.drop (LE.rom 0) (IE.var .i64 1000)) AL.nil)))]))
def wrlN2_4 : VW := (VW.done ((BE.le (IE.lit 0) (IE.fn .i64 8 (AL.lst (LE.drop (LE.rom 0) (IE.var .i64 1000)) AL.nil))) :: (BE.le (IE.fn .i64 8 (AL.lst (LE.drop (LE.rom 0) (IE.var .i64 1000)) AL.nil)) (IE.lit 0)) :: (BE.eq (IE.fn .i64 9 (AL.lst (LE.drop (LE.rom 0) (IE.var .i64 1000)) AL.nil)) (IE.lit 110)) :: (BE.not (BE.le (IE.lit 1) (IE.sub (IE.len (LE.rom 0)) (IE.var .i64 1000)))) :: pcrlN2_2) (some [(G.i (IE.fn .i64 11 (AL.lst (LE.rom 0) (AL.int .i64 (IE.var .i64 1) AL.nil))) (IE.lit 0)), (G.i (IE.fn .i64 10 (AL.lst (LE.rom 0) (AL.int .i64 (IE.var .i64 1) AL.nil))) (IE.fn .i64 9 (AL.lst (LE.drop (LE.rom 0) (IE.var .i64 1000)) AL.nil)))]))
def vwrlN2 : List VW := [wrlN2_0, wrlN2_1, wrlN2_2, wrlN2_3, wrlN2_4]
def vwrlN : Nat → List VW
  | 0 => vwrlN0
  | 1 => vwrlN1
  | 2 => vwrlN2
  | _ => []
end
def invrlN : Nat → Lt → Prop
  | 1, l => (rdV (l.z.rl 0) ≤ (l.i .i64 1) ∨ rdV (l.z.rl 0) ≤ 0) ∧ (l.z.rl 0).length ≤ 2000
  | 2, l => Tx (l.z.rl 0) (l.i .i64 1001) (l.i .i64 1000) ∧ (l.l 1002) = txsT (l.z.rl 0) (l.i .i64 1001).toNat ∧ (l.i .i64 1001) ≤ rdV (l.z.rl 0) ∧ (rdV (l.z.rl 0) ≤ (l.i .i64 1) ∨ rdV (l.z.rl 0) ≤ 0) ∧ (l.z.rl 0).length ≤ 2000
  | _, _ => True
def msrlN : Nat → Lt → Nat
  | 0, l => (l.z.rl 0).length + 3
  | 1, l => (l.z.rl 0).length + 2
  | 2, l => (l.z.rl 0).length + 1 - (l.i .i64 1001).toNat
  | _, _ => 0
theorem vcrlN0_0 : VC TTrlN invrlN msrlN 0 (startF 35 cRListN.pat (.lit true :: cRListN.pre)) wrlN0_0 := by
  intro ρ kn hi hp
  have hF : ρ.z.F = oct.Φ := kn.F
  simp only [h_nil, h_cons, d_le, d_eq, d_not, d_var, d_lit, d_cel, d_leq, d_fn, d_and, d_iff, IE.den, LE.den, AL.den, lenV, true_and, and_true, pcrlN0_2, pcrlN0_1, pcrlN0_0, hF, pi2, pi3, pi4, pi5, pi6, pi7, pl1, pi8, pi9, pl3, pi10, pi11, pb1, pl2] at hp
  obtain ⟨p1, p2, p3, p4, p5, p6, p7, p8⟩ := hp
  refine (show ((rdV (ρ.z.rl 0) ≤ (ρ.i .i64 1) ∨ rdV (ρ.z.rl 0) ≤ 0) ∧ (ρ.z.rl 0).length ≤ 2000) ∧ (((ρ.z.rl 0).length + 2 : Nat) < (ρ.z.rl 0).length + 3) from ?_)
  have hl := kn.ok.rl 0
  simp only [rdE_in, rdN_in, rdV_in, txtE_in, txtN_ind hl, lsE_in, lsN_in hl] at *
  exact ⟨⟨by omega, by omega⟩, by omega⟩
theorem vcrlN0_1 : VC TTrlN invrlN msrlN 0 (startF 35 cRListN.pat (.lit true :: cRListN.pre)) wrlN0_1 := by
  intro ρ kn hi hp
  have hF : ρ.z.F = oct.Φ := kn.F
  simp only [h_nil, h_cons, d_le, d_eq, d_not, d_var, d_lit, d_cel, d_leq, d_fn, d_and, d_iff, IE.den, LE.den, AL.den, lenV, true_and, and_true, pcrlN0_2, pcrlN0_1, pcrlN0_0, hF, pi2, pi3, pi4, pi5, pi6, pi7, pl1, pi8, pi9, pl3, pi10, pi11, pb1, pl2] at hp
  obtain ⟨p1, p2, p3, p4, p5, p6, p7, p8⟩ := hp
  refine all_cons (show (clampK .i64 (ρ.z.F.i 11 [.lst (ρ.z.rl 0), .int .i64 (ρ.i .i64 1)])) = (0 : Int) from ?_) (all_cons (show (clampK .i64 (ρ.z.F.i 10 [.lst (ρ.z.rl 0), .int .i64 (ρ.i .i64 1)])) = (3 : Int) from ?_) (all_nil))
  all_goals try simp only [hF, pi2, pi3, pi4, pi5, pi6, pi7, pl1, pi8, pi9, pl3, pi10, pi11, pb1, pl2]
  all_goals
    have hl := kn.ok.rl 0
    simp only [rdE_in, rdN_in, rdV_in, txtE_in, txtN_ind hl, lsE_in, lsN_in hl] at *
    first
      | (have q := ls_no (L := (ρ.z.rl 0)) (m := (ρ.i .i64 1)) (by assumption)
         have q2 : lsN (ρ.z.rl 0) (ρ.i .i64 1) = 0 := lsN_no (by omega)
         omega)
      | (have q := ls_long (L := (ρ.z.rl 0)) (m := (ρ.i .i64 1)) (by assumption) (by omega)
         have q2 : lsN (ρ.z.rl 0) (ρ.i .i64 1) = 0 := lsN_no (by omega)
         omega)
theorem vcrlN0_2 : VC TTrlN invrlN msrlN 0 (startF 35 cRListN.pat (.lit true :: cRListN.pre)) wrlN0_2 := by
  intro ρ kn hi hp
  have hF : ρ.z.F = oct.Φ := kn.F
  simp only [h_nil, h_cons, d_le, d_eq, d_not, d_var, d_lit, d_cel, d_leq, d_fn, d_and, d_iff, IE.den, LE.den, AL.den, lenV, true_and, and_true, pcrlN0_3, pcrlN0_1, pcrlN0_0, hF, pi2, pi3, pi4, pi5, pi6, pi7, pl1, pi8, pi9, pl3, pi10, pi11, pb1, pl2] at hp
  obtain ⟨p1, p2, p3, p4, p5, p6, p7, p8⟩ := hp
  refine (show ((rdV (ρ.z.rl 0) ≤ (ρ.i .i64 1) ∨ rdV (ρ.z.rl 0) ≤ 0) ∧ (ρ.z.rl 0).length ≤ 2000) ∧ (((ρ.z.rl 0).length + 2 : Nat) < (ρ.z.rl 0).length + 3) from ?_)
  have hl := kn.ok.rl 0
  simp only [rdE_in, rdN_in, rdV_in, txtE_in, txtN_ind hl, lsE_in, lsN_in hl] at *
  exact ⟨⟨by omega, by omega⟩, by omega⟩
theorem vcrlN0_3 : VC TTrlN invrlN msrlN 0 (startF 35 cRListN.pat (.lit true :: cRListN.pre)) wrlN0_3 := by
  intro ρ kn hi hp
  have hF : ρ.z.F = oct.Φ := kn.F
  simp only [h_nil, h_cons, d_le, d_eq, d_not, d_var, d_lit, d_cel, d_leq, d_fn, d_and, d_iff, IE.den, LE.den, AL.den, lenV, true_and, and_true, pcrlN0_3, pcrlN0_1, pcrlN0_0, hF, pi2, pi3, pi4, pi5, pi6, pi7, pl1, pi8, pi9, pl3, pi10, pi11, pb1, pl2] at hp
  obtain ⟨p1, p2, p3, p4, p5, p6, p7, p8⟩ := hp
  refine all_cons (show (clampK .i64 (ρ.z.F.i 11 [.lst (ρ.z.rl 0), .int .i64 (ρ.i .i64 1)])) = (0 : Int) from ?_) (all_cons (show (clampK .i64 (ρ.z.F.i 10 [.lst (ρ.z.rl 0), .int .i64 (ρ.i .i64 1)])) = (3 : Int) from ?_) (all_nil))
  all_goals try simp only [hF, pi2, pi3, pi4, pi5, pi6, pi7, pl1, pi8, pi9, pl3, pi10, pi11, pb1, pl2]
  all_goals
    have hl := kn.ok.rl 0
    simp only [rdE_in, rdN_in, rdV_in, txtE_in, txtN_ind hl, lsE_in, lsN_in hl] at *
    first
      | (have q := ls_no (L := (ρ.z.rl 0)) (m := (ρ.i .i64 1)) (by assumption)
         have q2 : lsN (ρ.z.rl 0) (ρ.i .i64 1) = 0 := lsN_no (by omega)
         omega)
      | (have q := ls_long (L := (ρ.z.rl 0)) (m := (ρ.i .i64 1)) (by assumption) (by omega)
         have q2 : lsN (ρ.z.rl 0) (ρ.i .i64 1) = 0 := lsN_no (by omega)
         omega)
theorem vcrlN0_4 : VC TTrlN invrlN msrlN 0 (startF 35 cRListN.pat (.lit true :: cRListN.pre)) wrlN0_4 := by
  intro ρ kn hi hp
  have hF : ρ.z.F = oct.Φ := kn.F
  simp only [h_nil, h_cons, d_le, d_eq, d_not, d_var, d_lit, d_cel, d_leq, d_fn, d_and, d_iff, IE.den, LE.den, AL.den, lenV, true_and, and_true, pcrlN0_0, hF, pi2, pi3, pi4, pi5, pi6, pi7, pl1, pi8, pi9, pl3, pi10, pi11, pb1, pl2] at hp
  obtain ⟨p1, p2, p3, p4, p5, p6⟩ := hp
  refine all_cons (show (clampK .i64 (ρ.z.F.i 11 [.lst (ρ.z.rl 0), .int .i64 (ρ.i .i64 1)])) = (0 : Int) from ?_) (all_cons (show (clampK .i64 (ρ.z.F.i 10 [.lst (ρ.z.rl 0), .int .i64 (ρ.i .i64 1)])) = (clampK .i64 (ρ.z.F.i 5 [.lst (ρ.z.rl 0)])) from ?_) (all_nil))
  all_goals try simp only [hF, pi2, pi3, pi4, pi5, pi6, pi7, pl1, pi8, pi9, pl3, pi10, pi11, pb1, pl2]
  all_goals
    have hl := kn.ok.rl 0
    simp only [rdE_in, rdN_in, rdV_in, txtE_in, txtN_ind hl, lsE_in, lsN_in hl] at *
    first
      | (have q := ls_no (L := (ρ.z.rl 0)) (m := (ρ.i .i64 1)) (by assumption)
         have q2 : lsN (ρ.z.rl 0) (ρ.i .i64 1) = 0 := lsN_no (by omega)
         omega)
      | (have q := ls_long (L := (ρ.z.rl 0)) (m := (ρ.i .i64 1)) (by assumption) (by omega)
         have q2 : lsN (ρ.z.rl 0) (ρ.i .i64 1) = 0 := lsN_no (by omega)
         omega)
def ivrlN1 (ρ : Rho) : Prop := (rdV (ρ.z.rl 0) ≤ (ρ.i .i64 1) ∨ rdV (ρ.z.rl 0) ≤ 0) ∧ (ρ.z.rl 0).length ≤ 2000
theorem vcrlN1_0 : VC TTrlN invrlN msrlN 1 trlN1 wrlN1_0 := by
  intro ρ kn hi hp
  have hi : ivrlN1 ρ := hi
  unfold ivrlN1 at hi
  have hF : ρ.z.F = oct.Φ := kn.F
  simp only [h_nil, h_cons, d_le, d_eq, d_not, d_var, d_lit, d_cel, d_leq, d_fn, d_and, d_iff, IE.den, LE.den, AL.den, lenV, true_and, and_true, pcrlN1_0, hF, pi2, pi3, pi4, pi5, pi6, pi7, pl1, pi8, pi9, pl3, pi10, pi11, pb1, pl2] at hp
  obtain ⟨p1, p2, p3, p4, p5, p6, p7, p8⟩ := hp
  refine all_cons (show (clampK .i64 (ρ.z.F.i 11 [.lst (ρ.z.rl 0), .int .i64 (ρ.i .i64 1)])) = (clampK .i64 (ρ.z.F.i 4 [.lst (ρ.z.rl 0)])) from ?_) (all_cons (show (clampK .i64 (ρ.z.F.i 10 [.lst (ρ.z.rl 0), .int .i64 (ρ.i .i64 1)])) = (0 : Int) from ?_) (all_nil))
  all_goals try simp only [hF, pi2, pi3, pi4, pi5, pi6, pi7, pl1, pi8, pi9, pl3, pi10, pi11, pb1, pl2]
  all_goals
    have hl := kn.ok.rl 0
    simp only [rdE_in, rdN_in, rdV_in, txtE_in, txtN_ind hl, lsE_in, lsN_in hl] at *
    obtain ⟨h1, h2⟩ := hi
    have t := tx0 (L := (ρ.z.rl 0)) (a := rdN (ρ.z.rl 0)) (by assumption) rfl
    have rv := rdV_rng (ρ.z.rl 0)
    first
      | (have q := tx_end (m := (ρ.i .i64 1)) t (by omega) h1; omega)
      | (have q := tx_err (m := (ρ.i .i64 1)) t (by omega) h1 (txtE_nil (L := (ρ.z.rl 0)) (a := rdN (ρ.z.rl 0)) (by omega)).symm (by decide)
         have q2 : lsN (ρ.z.rl 0) (ρ.i .i64 1) = 0 := lsN_no (by omega)
         omega)
      | (have q := tx_err (m := (ρ.i .i64 1)) t (by omega) h1 (e := txtE (List.drop (rdN (ρ.z.rl 0)).toNat (ρ.z.rl 0))) rfl (by omega)
         have q2 : lsN (ρ.z.rl 0) (ρ.i .i64 1) = 0 := lsN_no (by omega)
         omega)
theorem vcrlN1_1 : VC TTrlN invrlN msrlN 1 trlN1 wrlN1_1 := by
  intro ρ kn hi hp
  have hi : ivrlN1 ρ := hi
  unfold ivrlN1 at hi
  have hF : ρ.z.F = oct.Φ := kn.F
  simp only [h_nil, h_cons, d_le, d_eq, d_not, d_var, d_lit, d_cel, d_leq, d_fn, d_and, d_iff, IE.den, LE.den, AL.den, lenV, true_and, and_true, pcrlN1_1, pcrlN1_0, hF, pi2, pi3, pi4, pi5, pi6, pi7, pl1, pi8, pi9, pl3, pi10, pi11, pb1, pl2] at hp
  obtain ⟨p1, p2, p3, p4, p5, p6, p7, p8, p9, p10, p11, p12⟩ := hp
  refine all_cons (show (clampK .i64 (ρ.z.F.i 11 [.lst (ρ.z.rl 0), .int .i64 (ρ.i .i64 1)])) = (0 : Int) from ?_) (all_cons (show (clampK .i64 (ρ.z.F.i 10 [.lst (ρ.z.rl 0), .int .i64 (ρ.i .i64 1)])) = (clampK .i64 (ρ.z.F.i 9 [.lst ((ρ.z.rl 0).take ((((ρ.z.rl 0).length : Nat) : Int) - (clampK .i64 (ρ.z.F.i 4 [.lst (ρ.z.rl 0)]))).toNat)])) from ?_) (all_nil))
  all_goals try simp only [hF, pi2, pi3, pi4, pi5, pi6, pi7, pl1, pi8, pi9, pl3, pi10, pi11, pb1, pl2]
  all_goals
    have hl := kn.ok.rl 0
    simp only [rdE_in, rdN_in, rdV_in, txtE_in, txtN_ind hl, lsE_in, lsN_in hl] at *
    obtain ⟨h1, h2⟩ := hi
    have t := tx0 (L := (ρ.z.rl 0)) (a := rdN (ρ.z.rl 0)) (by assumption) rfl
    have rv := rdV_rng (ρ.z.rl 0)
    first
      | (have q := tx_end (m := (ρ.i .i64 1)) t (by omega) h1; omega)
      | (have q := tx_err (m := (ρ.i .i64 1)) t (by omega) h1 (txtE_nil (L := (ρ.z.rl 0)) (a := rdN (ρ.z.rl 0)) (by omega)).symm (by decide)
         have q2 : lsN (ρ.z.rl 0) (ρ.i .i64 1) = 0 := lsN_no (by omega)
         omega)
      | (have q := tx_err (m := (ρ.i .i64 1)) t (by omega) h1 (e := txtE (List.drop (rdN (ρ.z.rl 0)).toNat (ρ.z.rl 0))) rfl (by omega)
         have q2 : lsN (ρ.z.rl 0) (ρ.i .i64 1) = 0 := lsN_no (by omega)
         omega)
theorem vcrlN1_2 : VC TTrlN invrlN msrlN 1 trlN1 wrlN1_2 := by
  intro ρ kn hi hp
  have hi : ivrlN1 ρ := hi
  unfold ivrlN1 at hi
  have hF : ρ.z.F = oct.Φ := kn.F
  simp only [h_nil, h_cons, d_le, d_eq, d_not, d_var, d_lit, d_cel, d_leq, d_fn, d_and, d_iff, IE.den, LE.den, AL.den, lenV, true_and, and_true, pcrlN1_3, pcrlN1_2, pcrlN1_1, pcrlN1_0, hF, pi2, pi3, pi4, pi5, pi6, pi7, pl1, pi8, pi9, pl3, pi10, pi11, pb1, pl2] at hp
  obtain ⟨p1, p2, p3, p4, p5, p6, p7, p8, p9, p10, p11, p12, p13⟩ := hp
  refine (show (Tx (ρ.z.rl 0) (1 : Int) ((clampK .i64 (ρ.z.F.i 4 [.lst (ρ.z.rl 0)])) + (clampK .i64 (ρ.z.F.i 8 [.lst ((ρ.z.rl 0).drop (clampK .i64 (ρ.z.F.i 4 [.lst (ρ.z.rl 0)])).toNat)]))) ∧ ([[Go.Value.string (byteL (ρ.z.F.l 3 [.lst ((ρ.z.rl 0).drop (clampK .i64 (ρ.z.F.i 4 [.lst (ρ.z.rl 0)])).toNat)]))]] : LV) = txsT (ρ.z.rl 0) (1 : Int).toNat ∧ (1 : Int) ≤ rdV (ρ.z.rl 0) ∧ (rdV (ρ.z.rl 0) ≤ (ρ.i .i64 1) ∨ rdV (ρ.z.rl 0) ≤ 0) ∧ (ρ.z.rl 0).length ≤ 2000) ∧ (((ρ.z.rl 0).length + 1 - (1 : Int).toNat : Nat) < (ρ.z.rl 0).length + 2) from ?_)
  simp only [hF, pi2, pi3, pi4, pi5, pi6, pi7, pl1, pi8, pi9, pl3, pi10, pi11, pb1, pl2]
  have hl := kn.ok.rl 0
  simp only [rdE_in, rdN_in, rdV_in, txtE_in, txtN_ind hl, lsE_in, lsN_in hl] at *
  obtain ⟨h1, h2⟩ := hi
  have t := txs (tx0 (L := (ρ.z.rl 0)) (a := rdN (ρ.z.rl 0)) (by assumption) rfl) (by assumption)
  exact ⟨⟨t, txs_s (tx0 (L := (ρ.z.rl 0)) (a := rdN (ρ.z.rl 0)) (by assumption) rfl) (W := []) rfl, by omega, h1, h2⟩, by omega⟩
theorem vcrlN1_3 : VC TTrlN invrlN msrlN 1 trlN1 wrlN1_3 := by
  intro ρ kn hi hp
  have hi : ivrlN1 ρ := hi
  unfold ivrlN1 at hi
  have hF : ρ.z.F = oct.Φ := kn.F
  simp only [h_nil, h_cons, d_le, d_eq, d_not, d_var, d_lit, d_cel, d_leq, d_fn, d_and, d_iff, IE.den, LE.den, AL.den, lenV, true_and, and_true, pcrlN1_3, pcrlN1_2, pcrlN1_1, pcrlN1_0, hF, pi2, pi3, pi4, pi5, pi6, pi7, pl1, pi8, pi9, pl3, pi10, pi11, pb1, pl2] at hp
  obtain ⟨p1, p2, p3, p4, p5, p6, p7, p8, p9, p10, p11, p12, p13⟩ := hp
  refine all_cons (show (clampK .i64 (ρ.z.F.i 11 [.lst (ρ.z.rl 0), .int .i64 (ρ.i .i64 1)])) = (0 : Int) from ?_) (all_cons (show (clampK .i64 (ρ.z.F.i 10 [.lst (ρ.z.rl 0), .int .i64 (ρ.i .i64 1)])) = (clampK .i64 (ρ.z.F.i 9 [.lst ((ρ.z.rl 0).drop (clampK .i64 (ρ.z.F.i 4 [.lst (ρ.z.rl 0)])).toNat)])) from ?_) (all_nil))
  all_goals try simp only [hF, pi2, pi3, pi4, pi5, pi6, pi7, pl1, pi8, pi9, pl3, pi10, pi11, pb1, pl2]
  all_goals
    have hl := kn.ok.rl 0
    simp only [rdE_in, rdN_in, rdV_in, txtE_in, txtN_ind hl, lsE_in, lsN_in hl] at *
    obtain ⟨h1, h2⟩ := hi
    have t := tx0 (L := (ρ.z.rl 0)) (a := rdN (ρ.z.rl 0)) (by assumption) rfl
    have rv := rdV_rng (ρ.z.rl 0)
    first
      | (have q := tx_end (m := (ρ.i .i64 1)) t (by omega) h1; omega)
      | (have q := tx_err (m := (ρ.i .i64 1)) t (by omega) h1 (txtE_nil (L := (ρ.z.rl 0)) (a := rdN (ρ.z.rl 0)) (by omega)).symm (by decide)
         have q2 : lsN (ρ.z.rl 0) (ρ.i .i64 1) = 0 := lsN_no (by omega)
         omega)
      | (have q := tx_err (m := (ρ.i .i64 1)) t (by omega) h1 (e := txtE (List.drop (rdN (ρ.z.rl 0)).toNat (ρ.z.rl 0))) rfl (by omega)
         have q2 : lsN (ρ.z.rl 0) (ρ.i .i64 1) = 0 := lsN_no (by omega)
         omega)
theorem vcrlN1_4 : VC TTrlN invrlN msrlN 1 trlN1 wrlN1_4 := by
  intro ρ kn hi hp
  have hi : ivrlN1 ρ := hi
  unfold ivrlN1 at hi
  have hF : ρ.z.F = oct.Φ := kn.F
  simp only [h_nil, h_cons, d_le, d_eq, d_not, d_var, d_lit, d_cel, d_leq, d_fn, d_and, d_iff, IE.den, LE.den, AL.den, lenV, true_and, and_true, pcrlN1_2, pcrlN1_1, pcrlN1_0, hF, pi2, pi3, pi4, pi5, pi6, pi7, pl1, pi8, pi9, pl3, pi10, pi11, pb1, pl2] at hp
  obtain ⟨p1, p2, p3, p4, p5, p6, p7, p8, p9, p10, p11, p12, p13⟩ := hp
  refine all_cons (show (clampK .i64 (ρ.z.F.i 11 [.lst (ρ.z.rl 0), .int .i64 (ρ.i .i64 1)])) = (0 : Int) from ?_) (all_cons (show (clampK .i64 (ρ.z.F.i 10 [.lst (ρ.z.rl 0), .int .i64 (ρ.i .i64 1)])) = (clampK .i64 (ρ.z.F.i 9 [.lst ((ρ.z.rl 0).drop (clampK .i64 (ρ.z.F.i 4 [.lst (ρ.z.rl 0)])).toNat)])) from ?_) (all_nil))
  all_goals try simp only [hF, pi2, pi3, pi4, pi5, pi6, pi7, pl1, pi8, pi9, pl3, pi10, pi11, pb1, pl2]
  all_goals
    have hl := kn.ok.rl 0
    simp only [rdE_in, rdN_in, rdV_in, txtE_in, txtN_ind hl, lsE_in, lsN_in hl] at *
    obtain ⟨h1, h2⟩ := hi
    have t := tx0 (L := (ρ.z.rl 0)) (a := rdN (ρ.z.rl 0)) (by assumption) rfl
    have rv := rdV_rng (ρ.z.rl 0)
    first
      | (have q := tx_end (m := (ρ.i .i64 1)) t (by omega) h1; omega)
      | (have q := tx_err (m := (ρ.i .i64 1)) t (by omega) h1 (txtE_nil (L := (ρ.z.rl 0)) (a := rdN (ρ.z.rl 0)) (by omega)).symm (by decide)
         have q2 : lsN (ρ.z.rl 0) (ρ.i .i64 1) = 0 := lsN_no (by omega)
         omega)
      | (have q := tx_err (m := (ρ.i .i64 1)) t (by omega) h1 (e := txtE (List.drop (rdN (ρ.z.rl 0)).toNat (ρ.z.rl 0))) rfl (by omega)
         have q2 : lsN (ρ.z.rl 0) (ρ.i .i64 1) = 0 := lsN_no (by omega)
         omega)
def ivrlN2 (ρ : Rho) : Prop := Tx (ρ.z.rl 0) (ρ.i .i64 1001) (ρ.i .i64 1000) ∧ (ρ.l 1002) = txsT (ρ.z.rl 0) (ρ.i .i64 1001).toNat ∧ (ρ.i .i64 1001) ≤ rdV (ρ.z.rl 0) ∧ (rdV (ρ.z.rl 0) ≤ (ρ.i .i64 1) ∨ rdV (ρ.z.rl 0) ≤ 0) ∧ (ρ.z.rl 0).length ≤ 2000
theorem vcrlN2_0 : VC TTrlN invrlN msrlN 2 trlN2 wrlN2_0 := by
  intro ρ kn hi hp
  have hi : ivrlN2 ρ := hi
  unfold ivrlN2 at hi
  have hF : ρ.z.F = oct.Φ := kn.F
  simp only [h_nil, h_cons, d_le, d_eq, d_not, d_var, d_lit, d_cel, d_leq, d_fn, d_and, d_iff, IE.den, LE.den, AL.den, lenV, true_and, and_true, pcrlN2_0, hF, pi2, pi3, pi4, pi5, pi6, pi7, pl1, pi8, pi9, pl3, pi10, pi11, pb1, pl2] at hp
  obtain ⟨p1, p2, p3, p4, p5, p6, p7, p8, p9, p10, p11, p12, p13, p14, p15, p16, p17, p18, p19⟩ := hp
  exfalso
  all_goals
    have hl := kn.ok.rl 0
    simp only [rdE_in, rdN_in, rdV_in, txtE_in, txtN_ind hl, lsE_in, lsN_in hl] at *
    have hB' : ¬ lsB (ρ.z.rl 0) (ρ.i .i64 1) = true := by assumption
    obtain ⟨t, hw, h0, h1, h2⟩ := hi
    have k2 := tx_rng t
    first
      | (have q := tx_end (m := (ρ.i .i64 1)) t (by omega) h1
         exact absurd (lsB_t.2 ⟨q.1, by omega⟩) hB')
      | (have q := tx_err (m := (ρ.i .i64 1)) t (by omega) h1 (txtE_nil (L := (ρ.z.rl 0)) (a := ρ.i .i64 1000) (by omega)).symm (by decide)
         have q2 : lsN (ρ.z.rl 0) (ρ.i .i64 1) = 0 := lsN_no (by omega)
         omega)
      | (have q := tx_err (m := (ρ.i .i64 1)) t (by omega) h1 (e := txtE (List.drop (ρ.i .i64 1000).toNat (ρ.z.rl 0))) rfl (by omega)
         have q2 : lsN (ρ.z.rl 0) (ρ.i .i64 1) = 0 := lsN_no (by omega)
         omega)
theorem vcrlN2_1 : VC TTrlN invrlN msrlN 2 trlN2 wrlN2_1 := by
  intro ρ kn hi hp
  have hi : ivrlN2 ρ := hi
  unfold ivrlN2 at hi
  have hF : ρ.z.F = oct.Φ := kn.F
  simp only [h_nil, h_cons, d_le, d_eq, d_not, d_var, d_lit, d_cel, d_leq, d_fn, d_and, d_iff, IE.den, LE.den, AL.den, lenV, true_and, and_true, pcrlN2_1, pcrlN2_0, hF, pi2, pi3, pi4, pi5, pi6, pi7, pl1, pi8, pi9, pl3, pi10, pi11, pb1, pl2] at hp
  obtain ⟨p1, p2, p3, p4, p5, p6, p7, p8, p9, p10, p11, p12, p13, p14, p15, p16, p17, p18, p19, p20, p21, p22, p23⟩ := hp
  refine all_cons (show (clampK .i64 (ρ.z.F.i 11 [.lst (ρ.z.rl 0), .int .i64 (ρ.i .i64 1)])) = (0 : Int) from ?_) (all_cons (show (clampK .i64 (ρ.z.F.i 10 [.lst (ρ.z.rl 0), .int .i64 (ρ.i .i64 1)])) = (clampK .i64 (ρ.z.F.i 9 [.lst ((ρ.z.rl 0).take ((((ρ.z.rl 0).length : Nat) : Int) - (ρ.i .i64 1000)).toNat)])) from ?_) (all_nil))
  all_goals try simp only [hF, pi2, pi3, pi4, pi5, pi6, pi7, pl1, pi8, pi9, pl3, pi10, pi11, pb1, pl2]
  all_goals
    have hl := kn.ok.rl 0
    simp only [rdE_in, rdN_in, rdV_in, txtE_in, txtN_ind hl, lsE_in, lsN_in hl] at *
    have hB' : ¬ lsB (ρ.z.rl 0) (ρ.i .i64 1) = true := by assumption
    obtain ⟨t, hw, h0, h1, h2⟩ := hi
    have k2 := tx_rng t
    first
      | (have q := tx_end (m := (ρ.i .i64 1)) t (by omega) h1
         exact absurd (lsB_t.2 ⟨q.1, by omega⟩) hB')
      | (have q := tx_err (m := (ρ.i .i64 1)) t (by omega) h1 (txtE_nil (L := (ρ.z.rl 0)) (a := ρ.i .i64 1000) (by omega)).symm (by decide)
         have q2 : lsN (ρ.z.rl 0) (ρ.i .i64 1) = 0 := lsN_no (by omega)
         omega)
      | (have q := tx_err (m := (ρ.i .i64 1)) t (by omega) h1 (e := txtE (List.drop (ρ.i .i64 1000).toNat (ρ.z.rl 0))) rfl (by omega)
         have q2 : lsN (ρ.z.rl 0) (ρ.i .i64 1) = 0 := lsN_no (by omega)
         omega)
theorem vcrlN2_2 : VC TTrlN invrlN msrlN 2 trlN2 wrlN2_2 := by
  intro ρ kn hi hp
  have hi : ivrlN2 ρ := hi
  unfold ivrlN2 at hi
  have hF : ρ.z.F = oct.Φ := kn.F
  simp only [h_nil, h_cons, d_le, d_eq, d_not, d_var, d_lit, d_cel, d_leq, d_fn, d_and, d_iff, IE.den, LE.den, AL.den, lenV, true_and, and_true, pcrlN2_3, pcrlN2_2, pcrlN2_1, pcrlN2_0, hF, pi2, pi3, pi4, pi5, pi6, pi7, pl1, pi8, pi9, pl3, pi10, pi11, pb1, pl2] at hp
  obtain ⟨p1, p2, p3, p4, p5, p6, p7, p8, p9, p10, p11, p12, p13, p14, p15, p16, p17, p18, p19, p20, p21, p22, p23, p24⟩ := hp
  refine (show (Tx (ρ.z.rl 0) ((ρ.i .i64 1001) + (1 : Int)) ((ρ.i .i64 1000) + (clampK .i64 (ρ.z.F.i 8 [.lst ((ρ.z.rl 0).drop (ρ.i .i64 1000).toNat)]))) ∧ ((ρ.l 1002) ++ ([[Go.Value.string (byteL (ρ.z.F.l 3 [.lst ((ρ.z.rl 0).drop (ρ.i .i64 1000).toNat)]))]] : LV)) = txsT (ρ.z.rl 0) ((ρ.i .i64 1001) + (1 : Int)).toNat ∧ ((ρ.i .i64 1001) + (1 : Int)) ≤ rdV (ρ.z.rl 0) ∧ (rdV (ρ.z.rl 0) ≤ (ρ.i .i64 1) ∨ rdV (ρ.z.rl 0) ≤ 0) ∧ (ρ.z.rl 0).length ≤ 2000) ∧ (((ρ.z.rl 0).length + 1 - ((ρ.i .i64 1001) + (1 : Int)).toNat : Nat) < (ρ.z.rl 0).length + 1 - (ρ.i .i64 1001).toNat) from ?_)
  simp only [hF, pi2, pi3, pi4, pi5, pi6, pi7, pl1, pi8, pi9, pl3, pi10, pi11, pb1, pl2]
  have hl := kn.ok.rl 0
  simp only [rdE_in, rdN_in, rdV_in, txtE_in, txtN_ind hl, lsE_in, lsN_in hl] at *
  obtain ⟨t, hw, h0, h1, h2⟩ := hi
  have k1 := tx_le t
  have k2 := tx_rng t
  have k3 := t.n0
  exact ⟨⟨txs t (by assumption), txs_s t hw, by omega, h1, h2⟩, by omega⟩
theorem vcrlN2_3 : VC TTrlN invrlN msrlN 2 trlN2 wrlN2_3 := by
  intro ρ kn hi hp
  have hi : ivrlN2 ρ := hi
  unfold ivrlN2 at hi
  have hF : ρ.z.F = oct.Φ := kn.F
  simp only [h_nil, h_cons, d_le, d_eq, d_not, d_var, d_lit, d_cel, d_leq, d_fn, d_and, d_iff, IE.den, LE.den, AL.den, lenV, true_and, and_true, pcrlN2_3, pcrlN2_2, pcrlN2_1, pcrlN2_0, hF, pi2, pi3, pi4, pi5, pi6, pi7, pl1, pi8, pi9, pl3, pi10, pi11, pb1, pl2] at hp
  obtain ⟨p1, p2, p3, p4, p5, p6, p7, p8, p9, p10, p11, p12, p13, p14, p15, p16, p17, p18, p19, p20, p21, p22, p23, p24⟩ := hp
  refine all_cons (show (clampK .i64 (ρ.z.F.i 11 [.lst (ρ.z.rl 0), .int .i64 (ρ.i .i64 1)])) = (0 : Int) from ?_) (all_cons (show (clampK .i64 (ρ.z.F.i 10 [.lst (ρ.z.rl 0), .int .i64 (ρ.i .i64 1)])) = (clampK .i64 (ρ.z.F.i 9 [.lst ((ρ.z.rl 0).drop (ρ.i .i64 1000).toNat)])) from ?_) (all_nil))
  all_goals try simp only [hF, pi2, pi3, pi4, pi5, pi6, pi7, pl1, pi8, pi9, pl3, pi10, pi11, pb1, pl2]
  all_goals
    have hl := kn.ok.rl 0
    simp only [rdE_in, rdN_in, rdV_in, txtE_in, txtN_ind hl, lsE_in, lsN_in hl] at *
    have hB' : ¬ lsB (ρ.z.rl 0) (ρ.i .i64 1) = true := by assumption
    obtain ⟨t, hw, h0, h1, h2⟩ := hi
    have k2 := tx_rng t
    first
      | (have q := tx_end (m := (ρ.i .i64 1)) t (by omega) h1
         exact absurd (lsB_t.2 ⟨q.1, by omega⟩) hB')
      | (have q := tx_err (m := (ρ.i .i64 1)) t (by omega) h1 (txtE_nil (L := (ρ.z.rl 0)) (a := ρ.i .i64 1000) (by omega)).symm (by decide)
         have q2 : lsN (ρ.z.rl 0) (ρ.i .i64 1) = 0 := lsN_no (by omega)
         omega)
      | (have q := tx_err (m := (ρ.i .i64 1)) t (by omega) h1 (e := txtE (List.drop (ρ.i .i64 1000).toNat (ρ.z.rl 0))) rfl (by omega)
         have q2 : lsN (ρ.z.rl 0) (ρ.i .i64 1) = 0 := lsN_no (by omega)
         omega)
theorem vcrlN2_4 : VC TTrlN invrlN msrlN 2 trlN2 wrlN2_4 := by
  intro ρ kn hi hp
  have hi : ivrlN2 ρ := hi
  unfold ivrlN2 at hi
  have hF : ρ.z.F = oct.Φ := kn.F
  simp only [h_nil, h_cons, d_le, d_eq, d_not, d_var, d_lit, d_cel, d_leq, d_fn, d_and, d_iff, IE.den, LE.den, AL.den, lenV, true_and, and_true, pcrlN2_2, pcrlN2_1, pcrlN2_0, hF, pi2, pi3, pi4, pi5, pi6, pi7, pl1, pi8, pi9, pl3, pi10, pi11, pb1, pl2] at hp
  obtain ⟨p1, p2, p3, p4, p5, p6, p7, p8, p9, p10, p11, p12, p13, p14, p15, p16, p17, p18, p19, p20, p21, p22, p23, p24⟩ := hp
  refine all_cons (show (clampK .i64 (ρ.z.F.i 11 [.lst (ρ.z.rl 0), .int .i64 (ρ.i .i64 1)])) = (0 : Int) from ?_) (all_cons (show (clampK .i64 (ρ.z.F.i 10 [.lst (ρ.z.rl 0), .int .i64 (ρ.i .i64 1)])) = (clampK .i64 (ρ.z.F.i 9 [.lst ((ρ.z.rl 0).drop (ρ.i .i64 1000).toNat)])) from ?_) (all_nil))
  all_goals try simp only [hF, pi2, pi3, pi4, pi5, pi6, pi7, pl1, pi8, pi9, pl3, pi10, pi11, pb1, pl2]
  all_goals
    have hl := kn.ok.rl 0
    simp only [rdE_in, rdN_in, rdV_in, txtE_in, txtN_ind hl, lsE_in, lsN_in hl] at *
    have hB' : ¬ lsB (ρ.z.rl 0) (ρ.i .i64 1) = true := by assumption
    obtain ⟨t, hw, h0, h1, h2⟩ := hi
    have k2 := tx_rng t
    first
      | (have q := tx_end (m := (ρ.i .i64 1)) t (by omega) h1
         exact absurd (lsB_t.2 ⟨q.1, by omega⟩) hB')
      | (have q := tx_err (m := (ρ.i .i64 1)) t (by omega) h1 (txtE_nil (L := (ρ.z.rl 0)) (a := ρ.i .i64 1000) (by omega)).symm (by decide)
         have q2 : lsN (ρ.z.rl 0) (ρ.i .i64 1) = 0 := lsN_no (by omega)
         omega)
      | (have q := tx_err (m := (ρ.i .i64 1)) t (by omega) h1 (e := txtE (List.drop (ρ.i .i64 1000).toNat (ρ.z.rl 0))) rfl (by omega)
         have q2 : lsN (ρ.z.rl 0) (ρ.i .i64 1) = 0 := lsN_no (by omega)
         omega)
theorem vcsrlN0 : ∀ v ∈ vwrlN 0, VC TTrlN invrlN msrlN 0 (startF 35 cRListN.pat (.lit true :: cRListN.pre)) v := all_cons vcrlN0_0 (all_cons vcrlN0_1 (all_cons vcrlN0_2 (all_cons vcrlN0_3 (all_cons vcrlN0_4 (all_nil)))))
theorem okrlN0 : cfgOk (startF 35 cRListN.pat (.lit true :: cRListN.pre)) = true := by kernel_rfl
theorem sgrlN0 : segL cRListN.roms cRListN (seg TTrlN selrlN 400 tmrlN (startF 35 cRListN.pat (.lit true :: cRListN.pre))) = (true, codesR tmrlN (views (seg TTrlN selrlN 400 tmrlN (startF 35 cRListN.pat (.lit true :: cRListN.pre)))), vwrlN 0) := by kernel_rfl
theorem vcsrlN1 : ∀ v ∈ vwrlN 1, VC TTrlN invrlN msrlN 1 trlN1 v := all_cons vcrlN1_0 (all_cons vcrlN1_1 (all_cons vcrlN1_2 (all_cons vcrlN1_3 (all_cons vcrlN1_4 (all_nil)))))
theorem okrlN1 : cfgOk trlN1 = true := by kernel_rfl
theorem sgrlN1 : segL cRListN.roms cRListN (seg TTrlN selrlN 400 tmrlN trlN1) = (true, codesR tmrlN (views (seg TTrlN selrlN 400 tmrlN trlN1)), vwrlN 1) := by kernel_rfl
theorem vcsrlN2 : ∀ v ∈ vwrlN 2, VC TTrlN invrlN msrlN 2 trlN2 v := all_cons vcrlN2_0 (all_cons vcrlN2_1 (all_cons vcrlN2_2 (all_cons vcrlN2_3 (all_cons vcrlN2_4 (all_nil)))))
theorem okrlN2 : cfgOk trlN2 = true := by kernel_rfl
theorem sgrlN2 : segL cRListN.roms cRListN (seg TTrlN selrlN 400 tmrlN trlN2) = (true, codesR tmrlN (views (seg TTrlN selrlN 400 tmrlN trlN2)), vwrlN 2) := by kernel_rfl
theorem lnrlN0 : ∀ ρ, Known TTrlN (startF 35 cRListN.pat (.lit true :: cRListN.pre)) ρ → invrlN 0 ρ.lt → Holds ρ (leanOf (Cfg.pc (startF 35 cRListN.pat (.lit true :: cRListN.pre)))) := by
  intro ρ _ _
  exact (show Holds ρ [] from fun p hp => by cases hp)
theorem lnrlN1 : ∀ ρ, Known TTrlN trlN1 ρ → invrlN 1 ρ.lt → Holds ρ (leanOf (Cfg.pc trlN1)) := by
  intro ρ kn hi
  refine (show Holds ρ [.le (ln 0) (.rcap 0)] from ?_)
  have hi : (rdV (ρ.z.rl 0) ≤ (ρ.i .i64 1) ∨ rdV (ρ.z.rl 0) ≤ 0) ∧ (ρ.z.rl 0).length ≤ 2000 := hi
  have hF : ρ.z.F = oct.Φ := kn.F
  simp only [h_nil, h_cons, d_le, d_eq, d_not, d_var, d_lit, d_cel, d_leq, d_fn, d_and, d_iff, IE.den, LE.den, AL.den, lenV, true_and, and_true, hF, pi2, pi3, pi4, pi5, pi6, pi7, pl1, pi8, pi9, pl3, pi10, pi11, pb1, pl2]
  have hc := kn.cap 0 _ _ rfl
  simp only [ln, IE.den, LE.den, lenV]
  omega
theorem lnrlN2 : ∀ ρ, Known TTrlN trlN2 ρ → invrlN 2 ρ.lt → Holds ρ (leanOf (Cfg.pc trlN2)) := by
  intro ρ kn hi
  refine (show Holds ρ [.le (ln 0) (.rcap 0), .le (.var .i64 1001) (.lit 2000)] from ?_)
  have hi : Tx (ρ.z.rl 0) (ρ.i .i64 1001) (ρ.i .i64 1000) ∧ (ρ.l 1002) = txsT (ρ.z.rl 0) (ρ.i .i64 1001).toNat ∧ (ρ.i .i64 1001) ≤ rdV (ρ.z.rl 0) ∧ (rdV (ρ.z.rl 0) ≤ (ρ.i .i64 1) ∨ rdV (ρ.z.rl 0) ≤ 0) ∧ (ρ.z.rl 0).length ≤ 2000 := hi
  have hF : ρ.z.F = oct.Φ := kn.F
  simp only [h_nil, h_cons, d_le, d_eq, d_not, d_var, d_lit, d_cel, d_leq, d_fn, d_and, d_iff, IE.den, LE.den, AL.den, lenV, true_and, and_true, hF, pi2, pi3, pi4, pi5, pi6, pi7, pl1, pi8, pi9, pl3, pi10, pi11, pb1, pl2]
  have hc := kn.cap 0 _ _ rfl
  obtain ⟨t, hw, h1, h2, h3⟩ := hi
  have k1 := tx_le t
  have k2 := tx_rng t
  simp only [ln, IE.den, LE.den, lenV, and_true]
  omega
theorem told_rlN : Sx.Told oct.Φ cRListN := by
  refine told_of (cs := [cRRead, cRReadT, cRReadTe]) (all_cons told_rread (all_cons told_rreadt (all_cons told_rte (all_nil)))) (sel := selrlN) 400 tmrlN invrlN msrlN vwrlN 0 (pc0 := (.lit true :: cRListN.pre)) (by kernel_rfl) (by kernel_rfl) (by kernel_rfl) (post_nil rfl) ?_ ?_ ?_ rfl (fun ρ _ h => h.cons (p := .lit true) (by simp only [BE.den])) (fun _ _ _ _ => trivial) ?_
  · intro k C h
    have := lk_mem h
    simp only [tmrlN, List.mem_cons, Prod.mk.injEq, List.not_mem_nil, or_false] at this
    rcases this with ⟨rfl, rfl⟩ | ⟨rfl, rfl⟩ | ⟨rfl, rfl⟩
    · exact okrlN0
    · exact okrlN1
    · exact okrlN2
  · intro k C h
    have := lk_mem h
    simp only [tmrlN, List.mem_cons, Prod.mk.injEq, List.not_mem_nil, or_false] at this
    rcases this with ⟨rfl, rfl⟩ | ⟨rfl, rfl⟩ | ⟨rfl, rfl⟩
    · exact sgrlN0
    · exact sgrlN1
    · exact sgrlN2
  · intro k C h
    have := lk_mem h
    simp only [tmrlN, List.mem_cons, Prod.mk.injEq, List.not_mem_nil, or_false] at this
    rcases this with ⟨rfl, rfl⟩ | ⟨rfl, rfl⟩ | ⟨rfl, rfl⟩
    · exact vcsrlN0
    · exact vcsrlN1
    · exact vcsrlN2
  · intro k C h
    have := lk_mem h
    simp only [tmrlN, List.mem_cons, Prod.mk.injEq, List.not_mem_nil, or_false] at this
    rcases this with ⟨rfl, rfl⟩ | ⟨rfl, rfl⟩ | ⟨rfl, rfl⟩
    · exact lnrlN0
    · exact lnrlN1
    · exact lnrlN2
theorem lv_ext {a b : LV} (hl : a.length = b.length) (h : ∀ j, j < a.length → a.getD j [] = b.getD j []) : a = b := by
  apply List.ext_getElem hl
  intro j h1 h2
  have := h j h1
  rw [List.getD_eq_getElem?_getD, List.getD_eq_getElem?_getD, List.getElem?_eq_getElem h1, List.getElem?_eq_getElem h2] at this
  exact this
theorem str_of {L : LV} (hT : Typed kS L) {i : Int} (h0 : 0 ≤ i) (h : i < (L.length : Int)) : ∃ s, L.getD i.toNat [] = [.string s] ∧ strV (celV L i 0) = strV (.string s) := by
  have hm : L[i.toNat]? = some (L.getD i.toNat []) := by
    rw [List.getD_eq_getElem?_getD, List.getElem?_eq_getElem (by omega)]; rfl
  have hc := hT _ (List.mem_of_getElem? hm)
  have e2 : celV L i 0 = (L.getD i.toNat []).getD 0 (.bool false) := rfl
  generalize L.getD i.toNat [] = c at *
  rcases c with _ | ⟨v, _ | ⟨u, l⟩⟩
  · simp [conf, kS] at hc
  · cases v <;> first
      | (exact ⟨_, rfl, by rw [e2]; rfl⟩)
      | (exfalso; revert hc; simp [conf, conf1, kS]; done)
  · exfalso; revert hc; cases v <;> simp [conf, conf1, kS]
theorem str_cell {A B : LV} (hA : Typed kS A) (hB : Typed kS B) {i : Int} (h0 : 0 ≤ i) (ha : i < (A.length : Int)) (hb : i < (B.length : Int)) (h : strV (celV A i 0) = strV (celV B i 0)) : A.getD i.toNat [] = B.getD i.toNat [] := by
  obtain ⟨s, a1, a2⟩ := str_of hA h0 ha
  obtain ⟨t, b1, b2⟩ := str_of hB h0 hb
  rw [a2, b2] at h
  have : s = t := by
    have e := congrArg byteL h
    rwa [byteL_strV, byteL_strV] at e
  rw [a1, b1, this]
noncomputable section
abbrev TTsames : Tab := T oct.Φ cSameS.roms []
def tsames1 : Cfg := { top := ⟨34, over (opqS 10000 26) [(0, (SV.rom 0 (IE.lit 0) (IE.len (LE.rom 0)) none)), (1, (SV.rom 1 (IE.lit 0) (IE.len (LE.rom 1)) none)), (5, (SV.int .i64 (IE.var .i64 1000)))], ogt (loopTodo (bodyOf (T oct.Φ [] []) 34) 0), [], false, none⟩, rest := [], heap := [], next := 1, pc := .lit true :: ([] ++ [(BE.eq (IE.len (LE.rom 0)) (IE.len (LE.rom 1))), (BE.le (IE.lit 0) (IE.var .i64 1000)), (BE.le (IE.var .i64 1000) (IE.len (LE.rom 0))), (BE.le (IE.var .i64 1000) (IE.len (LE.rom 1)))]) }
def tmsames : List (Nat × Cfg) := [(0, startF 34 cSameS.pat [.lit true]), (1, tsames1)]
def selsames : Sel := [(34, 1, 0, 1)]
def pcsames0_0 : List BE := [(BE.lit true)]
def wsames0_0 : VW := (VW.cut 1 ((BE.eq (IE.len (LE.rom 0)) (IE.len (LE.rom 1))) :: pcsames0_0) (Sx.Sub.mk [(.i64, (1000, (IE.lit 0)))] [] [] [] [] []))
def wsames0_1 : VW := (VW.done ((BE.not (BE.eq (IE.len (LE.rom 0)) (IE.len (LE.rom 1)))) :: pcsames0_0) (some [(G.b (BE.leq (LE.rom 0) (LE.rom 1)) (BE.lit false))]))
def vwsames0 : List VW := [wsames0_0, wsames0_1]
def pcsames1_0 : List BE := [(BE.lit true), (BE.eq (IE.len (LE.rom 0)) (IE.len (LE.rom 1))), (BE.le (IE.lit 0) (IE.var .i64 1000)), (BE.le (IE.var .i64 1000) (IE.len (LE.rom 0))), (BE.le (IE.var .i64 1000) (IE.len (LE.rom 1)))]
def pcsames1_1 : List BE := ((BE.not (BE.le (IE.len (LE.rom 0)) (IE.var .i64 1000))) :: pcsames1_0)
def wsames1_0 : VW := (VW.done ((BE.le (IE.len (LE.rom 0)) (IE.var .i64 1000)) :: pcsames1_0) (some [(G.b (BE.leq (LE.rom 0) (LE.rom 1)) (BE.lit true))]))
def wsames1_1 : VW := (VW.cut 1 ((BE.leq (LE.str (LE.rom 0) (IE.var .i64 1000) 0) (LE.str (LE.rom 1) (IE.var .i64 1000) 0)) :: pcsames1_1) (Sx.Sub.mk [(.i64, (1000, (IE.add (IE.var .i64 1000) (IE.lit 1))))] [] [] [] [] []))
def wsames1_2 : VW := (VW.done ((BE.not (BE.leq (LE.str (LE.rom 0) (IE.var .i64 1000) 0) (LE.str (LE.rom 1) (IE.var .i64 1000) 0))) :: pcsames1_1) (some [(G.b (BE.leq (LE.rom 0) (LE.rom 1)) (BE.lit false))]))
def vwsames1 : List VW := [wsames1_0, wsames1_1, wsames1_2]
def vwsames : Nat → List VW
  | 0 => vwsames0
  | 1 => vwsames1
  | _ => []
end
def invsames : Nat → Lt → Prop
  | 1, l => ∀ j : Nat, j < (l.i .i64 1000).toNat → ((l.z.rl 0)).getD j [] = ((l.z.rl 1)).getD j []
  | _, _ => True
def mssames : Nat → Lt → Nat
  | 0, l => (l.z.rl 0).length + 1
  | 1, l => (l.z.rl 0).length - (l.i .i64 1000).toNat
  | _, _ => 0
theorem vcsames0_0 : VC TTsames invsames mssames 0 (startF 34 cSameS.pat [.lit true]) wsames0_0 := by
  intro ρ kn hi hp
  have hF : ρ.z.F = oct.Φ := kn.F
  simp only [h_nil, h_cons, d_le, d_eq, d_not, d_var, d_lit, d_cel, d_leq, d_fn, d_and, d_iff, IE.den, LE.den, AL.den, lenV, true_and, and_true, pcsames0_0, hF, pi2, pi3, pi4, pi5, pi6, pi7, pl1, pi8, pi9, pl3, pi10, pi11, pb1, pl2] at hp
  have p1 := hp
  refine (show (∀ j : Nat, j < (0 : Int).toNat → ((ρ.z.rl 0)).getD j [] = ((ρ.z.rl 1)).getD j []) ∧ (((ρ.z.rl 0).length - (0 : Int).toNat : Nat) < (ρ.z.rl 0).length + 1) from ?_)
  exact ⟨fun j hj => by simp at hj, by omega⟩
theorem vcsames0_1 : VC TTsames invsames mssames 0 (startF 34 cSameS.pat [.lit true]) wsames0_1 := by
  intro ρ kn hi hp
  have hF : ρ.z.F = oct.Φ := kn.F
  simp only [h_nil, h_cons, d_le, d_eq, d_not, d_var, d_lit, d_cel, d_leq, d_fn, d_and, d_iff, IE.den, LE.den, AL.den, lenV, true_and, and_true, pcsames0_0, hF, pi2, pi3, pi4, pi5, pi6, pi7, pl1, pi8, pi9, pl3, pi10, pi11, pb1, pl2] at hp
  have p1 := hp
  refine all_cons (show (eqV (ρ.z.rl 0) (ρ.z.rl 1)) = false from ?_) (all_nil)
  all_goals try simp only [hF, pi2, pi3, pi4, pi5, pi6, pi7, pl1, pi8, pi9, pl3, pi10, pi11, pb1, pl2]
  exact Bool.eq_false_iff.2 fun h => p1 (by rw [show ρ.z.rl 0 = ρ.z.rl 1 from by simpa [eqV] using h])
def ivsames1 (ρ : Rho) : Prop := ∀ j : Nat, j < (ρ.i .i64 1000).toNat → ((ρ.z.rl 0)).getD j [] = ((ρ.z.rl 1)).getD j []
theorem vcsames1_0 : VC TTsames invsames mssames 1 tsames1 wsames1_0 := by
  intro ρ kn hi hp
  have hi : ivsames1 ρ := hi
  unfold ivsames1 at hi
  have hF : ρ.z.F = oct.Φ := kn.F
  simp only [h_nil, h_cons, d_le, d_eq, d_not, d_var, d_lit, d_cel, d_leq, d_fn, d_and, d_iff, IE.den, LE.den, AL.den, lenV, true_and, and_true, pcsames1_0, hF, pi2, pi3, pi4, pi5, pi6, pi7, pl1, pi8, pi9, pl3, pi10, pi11, pb1, pl2] at hp
  obtain ⟨p1, p2, p3, p4, p5⟩ := hp
  refine all_cons (show (eqV (ρ.z.rl 0) (ρ.z.rl 1)) = true from ?_) (all_nil)
  all_goals try simp only [hF, pi2, pi3, pi4, pi5, pi6, pi7, pl1, pi8, pi9, pl3, pi10, pi11, pb1, pl2]
  have e : ρ.z.rl 0 = ρ.z.rl 1 := lv_ext (by omega) fun j hj => hi j (by omega)
  show eqV (ρ.z.rl 0) (ρ.z.rl 1) = true
  rw [e]; simp [eqV]
theorem vcsames1_1 : VC TTsames invsames mssames 1 tsames1 wsames1_1 := by
  intro ρ kn hi hp
  have hi : ivsames1 ρ := hi
  unfold ivsames1 at hi
  have hF : ρ.z.F = oct.Φ := kn.F
  simp only [h_nil, h_cons, d_le, d_eq, d_not, d_var, d_lit, d_cel, d_leq, d_fn, d_and, d_iff, IE.den, LE.den, AL.den, lenV, true_and, and_true, pcsames1_1, pcsames1_0, hF, pi2, pi3, pi4, pi5, pi6, pi7, pl1, pi8, pi9, pl3, pi10, pi11, pb1, pl2] at hp
  obtain ⟨p1, p2, p3, p4, p5, p6⟩ := hp
  refine (show (∀ j : Nat, j < ((ρ.i .i64 1000) + (1 : Int)).toNat → ((ρ.z.rl 0)).getD j [] = ((ρ.z.rl 1)).getD j []) ∧ (((ρ.z.rl 0).length - ((ρ.i .i64 1000) + (1 : Int)).toNat : Nat) < (ρ.z.rl 0).length - (ρ.i .i64 1000).toNat) from ?_)
  refine ⟨fun j hj => ?_, by omega⟩
  by_cases c : j < (ρ.i .i64 1000).toNat
  · exact hi j c
  · obtain rfl : j = (ρ.i .i64 1000).toNat := by omega
    exact str_cell (kn.rom 0 _ _ rfl) (kn.rom 1 _ _ rfl) (by omega) (by omega) (by omega) p1
theorem vcsames1_2 : VC TTsames invsames mssames 1 tsames1 wsames1_2 := by
  intro ρ kn hi hp
  have hi : ivsames1 ρ := hi
  unfold ivsames1 at hi
  have hF : ρ.z.F = oct.Φ := kn.F
  simp only [h_nil, h_cons, d_le, d_eq, d_not, d_var, d_lit, d_cel, d_leq, d_fn, d_and, d_iff, IE.den, LE.den, AL.den, lenV, true_and, and_true, pcsames1_1, pcsames1_0, hF, pi2, pi3, pi4, pi5, pi6, pi7, pl1, pi8, pi9, pl3, pi10, pi11, pb1, pl2] at hp
  obtain ⟨p1, p2, p3, p4, p5, p6⟩ := hp
  refine all_cons (show (eqV (ρ.z.rl 0) (ρ.z.rl 1)) = false from ?_) (all_nil)
  all_goals try simp only [hF, pi2, pi3, pi4, pi5, pi6, pi7, pl1, pi8, pi9, pl3, pi10, pi11, pb1, pl2]
  refine Bool.eq_false_iff.2 fun h => p1 ?_
  rw [show ρ.z.rl 0 = ρ.z.rl 1 from by simpa [eqV] using h]
theorem vcssames0 : ∀ v ∈ vwsames 0, VC TTsames invsames mssames 0 (startF 34 cSameS.pat [.lit true]) v := all_cons vcsames0_0 (all_cons vcsames0_1 (all_nil))
theorem oksames0 : cfgOk (startF 34 cSameS.pat [.lit true]) = true := by kernel_rfl
theorem sgsames0 : segL cSameS.roms cSameS (seg TTsames selsames 600 tmsames (startF 34 cSameS.pat [.lit true])) = (true, codesR tmsames (views (seg TTsames selsames 600 tmsames (startF 34 cSameS.pat [.lit true]))), vwsames 0) := by kernel_rfl
theorem vcssames1 : ∀ v ∈ vwsames 1, VC TTsames invsames mssames 1 tsames1 v := all_cons vcsames1_0 (all_cons vcsames1_1 (all_cons vcsames1_2 (all_nil)))
theorem oksames1 : cfgOk tsames1 = true := by kernel_rfl
theorem sgsames1 : segL cSameS.roms cSameS (seg TTsames selsames 600 tmsames tsames1) = (true, codesR tmsames (views (seg TTsames selsames 600 tmsames tsames1)), vwsames 1) := by kernel_rfl
theorem lnsames0 : ∀ ρ, Known TTsames (startF 34 cSameS.pat [.lit true]) ρ → invsames 0 ρ.lt → Holds ρ (leanOf (Cfg.pc (startF 34 cSameS.pat [.lit true]))) := by
  intro ρ _ _
  exact (show Holds ρ [] from fun p hp => by cases hp)
theorem lnsames1 : ∀ ρ, Known TTsames tsames1 ρ → invsames 1 ρ.lt → Holds ρ (leanOf (Cfg.pc tsames1)) := by
  intro ρ _ _
  exact (show Holds ρ [] from fun p hp => by cases hp)
theorem told_sames : Sx.Told oct.Φ cSameS := by
  refine told_of (cs := []) (all_nil) (sel := selsames) 600 tmsames invsames mssames vwsames 0 (pc0 := [.lit true]) (by kernel_rfl) (by kernel_rfl) (by kernel_rfl) (post_nil rfl) ?_ ?_ ?_ rfl (fun ρ _ _ => by simp [Holds, BE.den]) (fun _ _ _ _ => trivial) ?_
  · intro k C h
    have := lk_mem h
    simp only [tmsames, List.mem_cons, Prod.mk.injEq, List.not_mem_nil, or_false] at this
    rcases this with ⟨rfl, rfl⟩ | ⟨rfl, rfl⟩
    · exact oksames0
    · exact oksames1
  · intro k C h
    have := lk_mem h
    simp only [tmsames, List.mem_cons, Prod.mk.injEq, List.not_mem_nil, or_false] at this
    rcases this with ⟨rfl, rfl⟩ | ⟨rfl, rfl⟩
    · exact sgsames0
    · exact sgsames1
  · intro k C h
    have := lk_mem h
    simp only [tmsames, List.mem_cons, Prod.mk.injEq, List.not_mem_nil, or_false] at this
    rcases this with ⟨rfl, rfl⟩ | ⟨rfl, rfl⟩
    · exact vcssames0
    · exact vcssames1
  · intro k C h
    have := lk_mem h
    simp only [tmsames, List.mem_cons, Prod.mk.injEq, List.not_mem_nil, or_false] at this
    rcases this with ⟨rfl, rfl⟩ | ⟨rfl, rfl⟩
    · exact lnsames0
    · exact lnsames1
end Go.Proofs.Ytjgkaimgocnkmaa.oct
