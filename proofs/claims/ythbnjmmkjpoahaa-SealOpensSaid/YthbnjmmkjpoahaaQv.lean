/- Layer seal: frames, opened. No condition. -/
import Derived.Test.YthbnjmmkjpoahaaQw
set_option linter.unusedVariables false
set_option linter.unusedSimpArgs false
set_option linter.deprecated false
namespace Go.Proofs.Ythbnjmmkjpoahaa.oct
open Go Go.Proofs.Ythbnjmmkjpoahaa.Sx
noncomputable section
abbrev TTopnil : Tab := TM oct.Φ cOpenNil.roms [cRead] [mFill, mSum]
def pcopnil_0 : List BE := [(BE.le (IE.lit 0) (IE.fn .i64 4 (AL.lst LE.nil AL.nil))), (BE.le (IE.fn .i64 4 (AL.lst LE.nil AL.nil)) (IE.lit 0)), (BE.le (IE.fn .i64 4 (AL.lst LE.nil AL.nil)) (IE.lit 10)), (BE.lit true)]
def pcopnil_1 : List BE := ((BE.eq (IE.fn .i64 5 (AL.lst LE.nil AL.nil)) (IE.lit 0)) :: pcopnil_0)
def wopnil_0 : VW := (VW.done ((BE.le (IE.fn .u64 3 (AL.lst LE.nil AL.nil)) (IE.lit 65536)) :: pcopnil_1) (some []))
def wopnil_1 : VW := (VW.done ((BE.not (BE.le (IE.fn .u64 3 (AL.lst LE.nil AL.nil)) (IE.lit 65536))) :: pcopnil_1) (some [(G.i (IE.lit 110) (IE.lit 3))]))
def wopnil_2 : VW := (VW.done ((BE.not (BE.eq (IE.fn .i64 5 (AL.lst LE.nil AL.nil)) (IE.lit 0))) :: pcopnil_0) (some [(G.i (IE.lit 110) (IE.fn .i64 5 (AL.lst LE.nil AL.nil)))]))
def vwopnil : List VW := [wopnil_0, wopnil_1, wopnil_2]
end
theorem vcopnil_0 : VD TTopnil (st0 cOpenNil) wopnil_0 := by
  intro ρ kn hp
  exact all_nil
theorem vcopnil_1 : VD TTopnil (st0 cOpenNil) wopnil_1 := by
  intro ρ kn hp
  have hF : ρ.z.F = oct.Φ := kn.F
  simp only [h_nil, h_cons, d_le, d_eq, d_not, d_var, d_lit, d_cel, d_leq, d_fn, d_and, d_iff, IE.den, LE.den, AL.den, lenV, true_and, and_true, pcopnil_1, pcopnil_0, hF, pi2, pi3, pi4, pi5, pi6, pi7, pi20, pl1, pi21, pi22, pl2, cE, cN, cV, cO, cM, sum_in, List.map_cons, List.map_nil, AV.cell, four_s] at hp
  obtain ⟨p1, p2, p3, p4, p5⟩ := hp
  refine all_cons (show (110 : Int) = (3 : Int) from ?_) (all_nil)
  all_goals try simp only [hF, pi2, pi3, pi4, pi5, pi6, pi7, pi20, pl1, pi21, pi22, pl2, cE, cN, cV, cO, cM, sum_in, List.map_cons, List.map_nil, AV.cell, four_s]
  have e1 := rdE_nil
  have e2 := rdV_nil
  omega
theorem vcopnil_2 : VD TTopnil (st0 cOpenNil) wopnil_2 := by
  intro ρ kn hp
  have hF : ρ.z.F = oct.Φ := kn.F
  simp only [h_nil, h_cons, d_le, d_eq, d_not, d_var, d_lit, d_cel, d_leq, d_fn, d_and, d_iff, IE.den, LE.den, AL.den, lenV, true_and, and_true, pcopnil_0, hF, pi2, pi3, pi4, pi5, pi6, pi7, pi20, pl1, pi21, pi22, pl2, cE, cN, cV, cO, cM, sum_in, List.map_cons, List.map_nil, AV.cell, four_s] at hp
  obtain ⟨p1, p2, p3, p4⟩ := hp
  refine all_cons (show (110 : Int) = (clampK .i64 (ρ.z.F.i 5 [.lst ([] : LV)])) from ?_) (all_nil)
  all_goals try simp only [hF, pi2, pi3, pi4, pi5, pi6, pi7, pi20, pl1, pi21, pi22, pl2, cE, cN, cV, cO, cM, sum_in, List.map_cons, List.map_nil, AV.cell, four_s]
  have e1 := rdE_nil
  have e2 := rdV_nil
  omega
theorem told_opnil : Sx.Told oct.Φ cOpenNil := told_vwM (cs := [cRead]) (ms' := [mFill, mSum]) (all_cons told_read (all_nil)) (all_cons told_mfill (all_cons told_msum (all_nil))) 4000 vwopnil (by kernel_rfl) (by kernel_rfl) (by kernel_rfl) (post_nil rfl) (by kernel_rfl) (by kernel_rfl) (all_cons vcopnil_0 (all_cons vcopnil_1 (all_cons vcopnil_2 (all_nil))))
noncomputable section
abbrev TTopno : Tab := TM oct.Φ cOpenNo.roms [cRead] [mFill, mSum]
def pcopno_0 : List BE := [(BE.le (IE.lit 0) (IE.fn .i64 4 (AL.lst (LE.rom 0) AL.nil))), (BE.le (IE.fn .i64 4 (AL.lst (LE.rom 0) AL.nil)) (IE.len (LE.rom 0))), (BE.le (IE.fn .i64 4 (AL.lst (LE.rom 0) AL.nil)) (IE.lit 10)), (BE.lit true), (BE.not (BE.eq (IE.fn .i64 21 (AL.lst (LE.rom 0) AL.nil)) (IE.lit 0)))]
def pcopno_1 : List BE := ((BE.eq (IE.fn .i64 5 (AL.lst (LE.rom 0) AL.nil)) (IE.lit 0)) :: pcopno_0)
def pcopno_2 : List BE := ((BE.le (IE.fn .u64 3 (AL.lst (LE.rom 0) AL.nil)) (IE.lit 65536)) :: pcopno_1)
def pcopno_3 : List BE := ((BE.le (IE.add (IE.add (IE.fn .i64 4 (AL.lst (LE.rom 0) AL.nil)) (IE.fn .u64 3 (AL.lst (LE.rom 0) AL.nil))) (IE.lit 4)) (IE.len (LE.rom 0))) :: pcopno_2)
def pcopno_4 : List BE := ((BE.leq (LE.cat (LE.one (AL.int .u8 (IE.wrap .u8 (IE.bin BinOp.shr .u32 (IE.fn .u32 20 (AL.lst (LE.take (LE.rom 0) (IE.add (IE.fn .i64 4 (AL.lst (LE.rom 0) AL.nil)) (IE.fn .u64 3 (AL.lst (LE.rom 0) AL.nil)))) AL.nil)) (IE.lit 24))) AL.nil)) (LE.cat (LE.one (AL.int .u8 (IE.wrap .u8 (IE.bin BinOp.shr .u32 (IE.fn .u32 20 (AL.lst (LE.take (LE.rom 0) (IE.add (IE.fn .i64 4 (AL.lst (LE.rom 0) AL.nil)) (IE.fn .u64 3 (AL.lst (LE.rom 0) AL.nil)))) AL.nil)) (IE.lit 16))) AL.nil)) (LE.cat (LE.one (AL.int .u8 (IE.wrap .u8 (IE.bin BinOp.shr .u32 (IE.fn .u32 20 (AL.lst (LE.take (LE.rom 0) (IE.add (IE.fn .i64 4 (AL.lst (LE.rom 0) AL.nil)) (IE.fn .u64 3 (AL.lst (LE.rom 0) AL.nil)))) AL.nil)) (IE.lit 8))) AL.nil)) (LE.one (AL.int .u8 (IE.wrap .u8 (IE.fn .u32 20 (AL.lst (LE.take (LE.rom 0) (IE.add (IE.fn .i64 4 (AL.lst (LE.rom 0) AL.nil)) (IE.fn .u64 3 (AL.lst (LE.rom 0) AL.nil)))) AL.nil))) AL.nil))))) (LE.take (LE.drop (LE.rom 0) (IE.add (IE.fn .i64 4 (AL.lst (LE.rom 0) AL.nil)) (IE.fn .u64 3 (AL.lst (LE.rom 0) AL.nil)))) (IE.lit 4))) :: pcopno_3)
def pcopno_5 : List BE := ((BE.not (BE.eq (IE.add (IE.fn .i64 4 (AL.lst (LE.rom 0) AL.nil)) (IE.fn .u64 3 (AL.lst (LE.rom 0) AL.nil))) (IE.fn .i64 4 (AL.lst (LE.rom 0) AL.nil)))) :: pcopno_4)
def wopno_0 : VW := (VW.done ((BE.eq (IE.add (IE.fn .i64 4 (AL.lst (LE.rom 0) AL.nil)) (IE.fn .u64 3 (AL.lst (LE.rom 0) AL.nil))) (IE.fn .i64 4 (AL.lst (LE.rom 0) AL.nil))) :: pcopno_4) (some [(G.i (IE.lit 0) (IE.add (IE.lit 0) (IE.add (IE.add (IE.fn .i64 4 (AL.lst (LE.rom 0) AL.nil)) (IE.fn .u64 3 (AL.lst (LE.rom 0) AL.nil))) (IE.lit 4)))), (G.i (IE.fn .i64 21 (AL.lst (LE.rom 0) AL.nil)) (IE.lit 0))]))
def wopno_1 : VW := (VW.done ((BE.le (IE.fn .u64 3 (AL.lst (LE.rom 0) AL.nil)) (IE.lit 0)) :: pcopno_5) (some [(G.i (IE.lit 0) (IE.add (IE.lit 0) (IE.add (IE.add (IE.fn .i64 4 (AL.lst (LE.rom 0) AL.nil)) (IE.fn .u64 3 (AL.lst (LE.rom 0) AL.nil))) (IE.lit 4)))), (G.i (IE.fn .i64 21 (AL.lst (LE.rom 0) AL.nil)) (IE.lit 0))]))
def wopno_2 : VW := (VW.done ((BE.not (BE.le (IE.fn .u64 3 (AL.lst (LE.rom 0) AL.nil)) (IE.lit 0))) :: pcopno_5) (some [(G.b (BE.lit true) (BE.lit false))]))
def wopno_3 : VW := (VW.done ((BE.not (BE.leq (LE.cat (LE.one (AL.int .u8 (IE.wrap .u8 (IE.bin BinOp.shr .u32 (IE.fn .u32 20 (AL.lst (LE.take (LE.rom 0) (IE.add (IE.fn .i64 4 (AL.lst (LE.rom 0) AL.nil)) (IE.fn .u64 3 (AL.lst (LE.rom 0) AL.nil)))) AL.nil)) (IE.lit 24))) AL.nil)) (LE.cat (LE.one (AL.int .u8 (IE.wrap .u8 (IE.bin BinOp.shr .u32 (IE.fn .u32 20 (AL.lst (LE.take (LE.rom 0) (IE.add (IE.fn .i64 4 (AL.lst (LE.rom 0) AL.nil)) (IE.fn .u64 3 (AL.lst (LE.rom 0) AL.nil)))) AL.nil)) (IE.lit 16))) AL.nil)) (LE.cat (LE.one (AL.int .u8 (IE.wrap .u8 (IE.bin BinOp.shr .u32 (IE.fn .u32 20 (AL.lst (LE.take (LE.rom 0) (IE.add (IE.fn .i64 4 (AL.lst (LE.rom 0) AL.nil)) (IE.fn .u64 3 (AL.lst (LE.rom 0) AL.nil)))) AL.nil)) (IE.lit 8))) AL.nil)) (LE.one (AL.int .u8 (IE.wrap .u8 (IE.fn .u32 20 (AL.lst (LE.take (LE.rom 0) (IE.add (IE.fn .i64 4 (AL.lst (LE.rom 0) AL.nil)) (IE.fn .u64 3 (AL.lst (LE.rom 0) AL.nil)))) AL.nil))) AL.nil))))) (LE.take (LE.drop (LE.rom 0) (IE.add (IE.fn .i64 4 (AL.lst (LE.rom 0) AL.nil)) (IE.fn .u64 3 (AL.lst (LE.rom 0) AL.nil)))) (IE.lit 4)))) :: pcopno_3) (some [(G.i (IE.fn .i64 21 (AL.lst (LE.rom 0) AL.nil)) (IE.lit 120))]))
def wopno_4 : VW := (VW.done ((BE.not (BE.le (IE.add (IE.add (IE.fn .i64 4 (AL.lst (LE.rom 0) AL.nil)) (IE.fn .u64 3 (AL.lst (LE.rom 0) AL.nil))) (IE.lit 4)) (IE.len (LE.rom 0)))) :: pcopno_2) (some [(G.i (IE.fn .i64 21 (AL.lst (LE.rom 0) AL.nil)) (IE.lit 110))]))
def wopno_5 : VW := (VW.done ((BE.not (BE.le (IE.fn .u64 3 (AL.lst (LE.rom 0) AL.nil)) (IE.lit 65536))) :: pcopno_1) (some [(G.i (IE.fn .i64 21 (AL.lst (LE.rom 0) AL.nil)) (IE.lit 3))]))
def wopno_6 : VW := (VW.done ((BE.not (BE.eq (IE.fn .i64 5 (AL.lst (LE.rom 0) AL.nil)) (IE.lit 0))) :: pcopno_0) (some [(G.i (IE.fn .i64 21 (AL.lst (LE.rom 0) AL.nil)) (IE.fn .i64 5 (AL.lst (LE.rom 0) AL.nil)))]))
def vwopno : List VW := [wopno_0, wopno_1, wopno_2, wopno_3, wopno_4, wopno_5, wopno_6]
end
theorem vcopno_0 : VD TTopno (st0 cOpenNo) wopno_0 := by
  intro ρ kn hp
  have hF : ρ.z.F = oct.Φ := kn.F
  simp only [h_nil, h_cons, d_le, d_eq, d_not, d_var, d_lit, d_cel, d_leq, d_fn, d_and, d_iff, IE.den, LE.den, AL.den, lenV, true_and, and_true, pcopno_4, pcopno_3, pcopno_2, pcopno_1, pcopno_0, hF, pi2, pi3, pi4, pi5, pi6, pi7, pi20, pl1, pi21, pi22, pl2, cE, cN, cV, cO, cM, sum_in, List.map_cons, List.map_nil, AV.cell, four_s] at hp
  obtain ⟨p1, p2, p3, p4, p5, p6, p7, p8, p9⟩ := hp
  refine all_cons (show (0 : Int) = ((0 : Int) + (((clampK .i64 (ρ.z.F.i 4 [.lst (ρ.z.rl 0)])) + (clampK .u64 (ρ.z.F.i 3 [.lst (ρ.z.rl 0)]))) + (4 : Int))) from ?_) (all_cons (show (clampK .i64 (ρ.z.F.i 21 [.lst (ρ.z.rl 0)])) = (0 : Int) from ?_) (all_nil))
  all_goals try simp only [hF, pi2, pi3, pi4, pi5, pi6, pi7, pi20, pl1, pi21, pi22, pl2, cE, cN, cV, cO, cM, sum_in, List.map_cons, List.map_nil, AV.cell, four_s]
  all_goals exfalso
  all_goals
    have hl := kn.ok.rl 0
    have hT : Typed byteK (ρ.z.rl 0) := kn.rom 0 _ _ rfl
    have hN := rdN_rng (ρ.z.rl 0)
    have hV := rdV_0 (ρ.z.rl 0)
    exact absurd (opE_e (by assumption) (by assumption) (by assumption) (Eq.symm p2)) (by assumption)
theorem vcopno_1 : VD TTopno (st0 cOpenNo) wopno_1 := by
  intro ρ kn hp
  have hF : ρ.z.F = oct.Φ := kn.F
  simp only [h_nil, h_cons, d_le, d_eq, d_not, d_var, d_lit, d_cel, d_leq, d_fn, d_and, d_iff, IE.den, LE.den, AL.den, lenV, true_and, and_true, pcopno_5, pcopno_4, pcopno_3, pcopno_2, pcopno_1, pcopno_0, hF, pi2, pi3, pi4, pi5, pi6, pi7, pi20, pl1, pi21, pi22, pl2, cE, cN, cV, cO, cM, sum_in, List.map_cons, List.map_nil, AV.cell, four_s] at hp
  obtain ⟨p1, p2, p3, p4, p5, p6, p7, p8, p9, p10⟩ := hp
  refine all_cons (show (0 : Int) = ((0 : Int) + (((clampK .i64 (ρ.z.F.i 4 [.lst (ρ.z.rl 0)])) + (clampK .u64 (ρ.z.F.i 3 [.lst (ρ.z.rl 0)]))) + (4 : Int))) from ?_) (all_cons (show (clampK .i64 (ρ.z.F.i 21 [.lst (ρ.z.rl 0)])) = (0 : Int) from ?_) (all_nil))
  all_goals try simp only [hF, pi2, pi3, pi4, pi5, pi6, pi7, pi20, pl1, pi21, pi22, pl2, cE, cN, cV, cO, cM, sum_in, List.map_cons, List.map_nil, AV.cell, four_s]
  all_goals exfalso
  all_goals
    have hl := kn.ok.rl 0
    have hT : Typed byteK (ρ.z.rl 0) := kn.rom 0 _ _ rfl
    have hN := rdN_rng (ρ.z.rl 0)
    have hV := rdV_0 (ρ.z.rl 0)
    exact absurd (opE_e (by assumption) (by assumption) (by assumption) (Eq.symm p3)) (by assumption)
theorem vcopno_2 : VD TTopno (st0 cOpenNo) wopno_2 := by
  intro ρ kn hp
  have hF : ρ.z.F = oct.Φ := kn.F
  simp only [h_nil, h_cons, d_le, d_eq, d_not, d_var, d_lit, d_cel, d_leq, d_fn, d_and, d_iff, IE.den, LE.den, AL.den, lenV, true_and, and_true, pcopno_5, pcopno_4, pcopno_3, pcopno_2, pcopno_1, pcopno_0, hF, pi2, pi3, pi4, pi5, pi6, pi7, pi20, pl1, pi21, pi22, pl2, cE, cN, cV, cO, cM, sum_in, List.map_cons, List.map_nil, AV.cell, four_s] at hp
  obtain ⟨p1, p2, p3, p4, p5, p6, p7, p8, p9, p10⟩ := hp
  exfalso
  all_goals
    have hl := kn.ok.rl 0
    have hT : Typed byteK (ρ.z.rl 0) := kn.rom 0 _ _ rfl
    have hN := rdN_rng (ρ.z.rl 0)
    have hV := rdV_0 (ρ.z.rl 0)
    exact absurd (opE_e (by assumption) (by assumption) (by assumption) (Eq.symm p3)) (by assumption)
theorem vcopno_3 : VD TTopno (st0 cOpenNo) wopno_3 := by
  intro ρ kn hp
  have hF : ρ.z.F = oct.Φ := kn.F
  simp only [h_nil, h_cons, d_le, d_eq, d_not, d_var, d_lit, d_cel, d_leq, d_fn, d_and, d_iff, IE.den, LE.den, AL.den, lenV, true_and, and_true, pcopno_3, pcopno_2, pcopno_1, pcopno_0, hF, pi2, pi3, pi4, pi5, pi6, pi7, pi20, pl1, pi21, pi22, pl2, cE, cN, cV, cO, cM, sum_in, List.map_cons, List.map_nil, AV.cell, four_s] at hp
  obtain ⟨p1, p2, p3, p4, p5, p6, p7, p8⟩ := hp
  refine all_cons (show (clampK .i64 (ρ.z.F.i 21 [.lst (ρ.z.rl 0)])) = (120 : Int) from ?_) (all_nil)
  all_goals try simp only [hF, pi2, pi3, pi4, pi5, pi6, pi7, pi20, pl1, pi21, pi22, pl2, cE, cN, cV, cO, cM, sum_in, List.map_cons, List.map_nil, AV.cell, four_s]
  all_goals
    have hl := kn.ok.rl 0
    have hT : Typed byteK (ρ.z.rl 0) := kn.rom 0 _ _ rfl
    have hN := rdN_rng (ρ.z.rl 0)
    have hV := rdV_0 (ρ.z.rl 0)
    rw [opE_d p4 p3 p2 (fun h => p1 h.symm)]
theorem vcopno_4 : VD TTopno (st0 cOpenNo) wopno_4 := by
  intro ρ kn hp
  have hF : ρ.z.F = oct.Φ := kn.F
  simp only [h_nil, h_cons, d_le, d_eq, d_not, d_var, d_lit, d_cel, d_leq, d_fn, d_and, d_iff, IE.den, LE.den, AL.den, lenV, true_and, and_true, pcopno_2, pcopno_1, pcopno_0, hF, pi2, pi3, pi4, pi5, pi6, pi7, pi20, pl1, pi21, pi22, pl2, cE, cN, cV, cO, cM, sum_in, List.map_cons, List.map_nil, AV.cell, four_s] at hp
  obtain ⟨p1, p2, p3, p4, p5, p6, p7⟩ := hp
  refine all_cons (show (clampK .i64 (ρ.z.F.i 21 [.lst (ρ.z.rl 0)])) = (110 : Int) from ?_) (all_nil)
  all_goals try simp only [hF, pi2, pi3, pi4, pi5, pi6, pi7, pi20, pl1, pi21, pi22, pl2, cE, cN, cV, cO, cM, sum_in, List.map_cons, List.map_nil, AV.cell, four_s]
  all_goals
    have hl := kn.ok.rl 0
    have hT : Typed byteK (ρ.z.rl 0) := kn.rom 0 _ _ rfl
    have hN := rdN_rng (ρ.z.rl 0)
    have hV := rdV_0 (ρ.z.rl 0)
    rw [opE_c p3 p2 (by omega)]
theorem vcopno_5 : VD TTopno (st0 cOpenNo) wopno_5 := by
  intro ρ kn hp
  have hF : ρ.z.F = oct.Φ := kn.F
  simp only [h_nil, h_cons, d_le, d_eq, d_not, d_var, d_lit, d_cel, d_leq, d_fn, d_and, d_iff, IE.den, LE.den, AL.den, lenV, true_and, and_true, pcopno_1, pcopno_0, hF, pi2, pi3, pi4, pi5, pi6, pi7, pi20, pl1, pi21, pi22, pl2, cE, cN, cV, cO, cM, sum_in, List.map_cons, List.map_nil, AV.cell, four_s] at hp
  obtain ⟨p1, p2, p3, p4, p5, p6⟩ := hp
  refine all_cons (show (clampK .i64 (ρ.z.F.i 21 [.lst (ρ.z.rl 0)])) = (3 : Int) from ?_) (all_nil)
  all_goals try simp only [hF, pi2, pi3, pi4, pi5, pi6, pi7, pi20, pl1, pi21, pi22, pl2, cE, cN, cV, cO, cM, sum_in, List.map_cons, List.map_nil, AV.cell, four_s]
  all_goals
    have hl := kn.ok.rl 0
    have hT : Typed byteK (ρ.z.rl 0) := kn.rom 0 _ _ rfl
    have hN := rdN_rng (ρ.z.rl 0)
    have hV := rdV_0 (ρ.z.rl 0)
    rw [opE_b p2 (by omega)]
theorem vcopno_6 : VD TTopno (st0 cOpenNo) wopno_6 := by
  intro ρ kn hp
  have hF : ρ.z.F = oct.Φ := kn.F
  simp only [h_nil, h_cons, d_le, d_eq, d_not, d_var, d_lit, d_cel, d_leq, d_fn, d_and, d_iff, IE.den, LE.den, AL.den, lenV, true_and, and_true, pcopno_0, hF, pi2, pi3, pi4, pi5, pi6, pi7, pi20, pl1, pi21, pi22, pl2, cE, cN, cV, cO, cM, sum_in, List.map_cons, List.map_nil, AV.cell, four_s] at hp
  obtain ⟨p1, p2, p3, p4, p5⟩ := hp
  refine all_cons (show (clampK .i64 (ρ.z.F.i 21 [.lst (ρ.z.rl 0)])) = (clampK .i64 (ρ.z.F.i 5 [.lst (ρ.z.rl 0)])) from ?_) (all_nil)
  all_goals try simp only [hF, pi2, pi3, pi4, pi5, pi6, pi7, pi20, pl1, pi21, pi22, pl2, cE, cN, cV, cO, cM, sum_in, List.map_cons, List.map_nil, AV.cell, four_s]
  all_goals
    have hl := kn.ok.rl 0
    have hT : Typed byteK (ρ.z.rl 0) := kn.rom 0 _ _ rfl
    have hN := rdN_rng (ρ.z.rl 0)
    have hV := rdV_0 (ρ.z.rl 0)
    rw [opE_a p1]
theorem told_opno : Sx.Told oct.Φ cOpenNo := told_vwM (cs := [cRead]) (ms' := [mFill, mSum]) (all_cons told_read (all_nil)) (all_cons told_mfill (all_cons told_msum (all_nil))) 4000 vwopno (by kernel_rfl) (by kernel_rfl) (by kernel_rfl) (post_nil rfl) (by kernel_rfl) (by kernel_rfl) (all_cons vcopno_0 (all_cons vcopno_1 (all_cons vcopno_2 (all_cons vcopno_3 (all_cons vcopno_4 (all_cons vcopno_5 (all_cons vcopno_6 (all_nil))))))))
noncomputable section
abbrev TTopz : Tab := TM oct.Φ cOpenZ.roms [cRead] [mFill, mSum]
def pcopz_0 : List BE := [(BE.le (IE.lit 0) (IE.fn .i64 4 (AL.lst (LE.rom 0) AL.nil))), (BE.le (IE.fn .i64 4 (AL.lst (LE.rom 0) AL.nil)) (IE.len (LE.rom 0))), (BE.le (IE.fn .i64 4 (AL.lst (LE.rom 0) AL.nil)) (IE.lit 10)), (BE.lit true), (BE.eq (IE.fn .i64 21 (AL.lst (LE.rom 0) AL.nil)) (IE.lit 0)), (BE.eq (IE.len (LE.fn 5 (AL.lst (LE.rom 0) AL.nil))) (IE.lit 0))]
def pcopz_1 : List BE := ((BE.eq (IE.fn .i64 5 (AL.lst (LE.rom 0) AL.nil)) (IE.lit 0)) :: pcopz_0)
def pcopz_2 : List BE := ((BE.le (IE.fn .u64 3 (AL.lst (LE.rom 0) AL.nil)) (IE.lit 65536)) :: pcopz_1)
def pcopz_3 : List BE := ((BE.le (IE.add (IE.add (IE.fn .i64 4 (AL.lst (LE.rom 0) AL.nil)) (IE.fn .u64 3 (AL.lst (LE.rom 0) AL.nil))) (IE.lit 4)) (IE.len (LE.rom 0))) :: pcopz_2)
def pcopz_4 : List BE := ((BE.leq (LE.cat (LE.one (AL.int .u8 (IE.wrap .u8 (IE.bin BinOp.shr .u32 (IE.fn .u32 20 (AL.lst (LE.take (LE.rom 0) (IE.add (IE.fn .i64 4 (AL.lst (LE.rom 0) AL.nil)) (IE.fn .u64 3 (AL.lst (LE.rom 0) AL.nil)))) AL.nil)) (IE.lit 24))) AL.nil)) (LE.cat (LE.one (AL.int .u8 (IE.wrap .u8 (IE.bin BinOp.shr .u32 (IE.fn .u32 20 (AL.lst (LE.take (LE.rom 0) (IE.add (IE.fn .i64 4 (AL.lst (LE.rom 0) AL.nil)) (IE.fn .u64 3 (AL.lst (LE.rom 0) AL.nil)))) AL.nil)) (IE.lit 16))) AL.nil)) (LE.cat (LE.one (AL.int .u8 (IE.wrap .u8 (IE.bin BinOp.shr .u32 (IE.fn .u32 20 (AL.lst (LE.take (LE.rom 0) (IE.add (IE.fn .i64 4 (AL.lst (LE.rom 0) AL.nil)) (IE.fn .u64 3 (AL.lst (LE.rom 0) AL.nil)))) AL.nil)) (IE.lit 8))) AL.nil)) (LE.one (AL.int .u8 (IE.wrap .u8 (IE.fn .u32 20 (AL.lst (LE.take (LE.rom 0) (IE.add (IE.fn .i64 4 (AL.lst (LE.rom 0) AL.nil)) (IE.fn .u64 3 (AL.lst (LE.rom 0) AL.nil)))) AL.nil))) AL.nil))))) (LE.take (LE.drop (LE.rom 0) (IE.add (IE.fn .i64 4 (AL.lst (LE.rom 0) AL.nil)) (IE.fn .u64 3 (AL.lst (LE.rom 0) AL.nil)))) (IE.lit 4))) :: pcopz_3)
def pcopz_5 : List BE := ((BE.not (BE.eq (IE.add (IE.fn .i64 4 (AL.lst (LE.rom 0) AL.nil)) (IE.fn .u64 3 (AL.lst (LE.rom 0) AL.nil))) (IE.fn .i64 4 (AL.lst (LE.rom 0) AL.nil)))) :: pcopz_4)
def wopz_0 : VW := (VW.done ((BE.eq (IE.add (IE.fn .i64 4 (AL.lst (LE.rom 0) AL.nil)) (IE.fn .u64 3 (AL.lst (LE.rom 0) AL.nil))) (IE.fn .i64 4 (AL.lst (LE.rom 0) AL.nil))) :: pcopz_4) (some [(G.i (IE.fn .i64 22 (AL.lst (LE.rom 0) AL.nil)) (IE.add (IE.lit 0) (IE.add (IE.add (IE.fn .i64 4 (AL.lst (LE.rom 0) AL.nil)) (IE.fn .u64 3 (AL.lst (LE.rom 0) AL.nil))) (IE.lit 4))))]))
def wopz_1 : VW := (VW.done ((BE.le (IE.fn .u64 3 (AL.lst (LE.rom 0) AL.nil)) (IE.lit 0)) :: pcopz_5) (some [(G.i (IE.fn .i64 22 (AL.lst (LE.rom 0) AL.nil)) (IE.add (IE.lit 0) (IE.add (IE.add (IE.fn .i64 4 (AL.lst (LE.rom 0) AL.nil)) (IE.fn .u64 3 (AL.lst (LE.rom 0) AL.nil))) (IE.lit 4))))]))
def wopz_2 : VW := (VW.done ((BE.not (BE.le (IE.fn .u64 3 (AL.lst (LE.rom 0) AL.nil)) (IE.lit 0))) :: pcopz_5) (some [(G.b (BE.lit true) (BE.lit false))]))
def wopz_3 : VW := (VW.done ((BE.not (BE.leq (LE.cat (LE.one (AL.int .u8 (IE.wrap .u8 (IE.bin BinOp.shr .u32 (IE.fn .u32 20 (AL.lst (LE.take (LE.rom 0) (IE.add (IE.fn .i64 4 (AL.lst (LE.rom 0) AL.nil)) (IE.fn .u64 3 (AL.lst (LE.rom 0) AL.nil)))) AL.nil)) (IE.lit 24))) AL.nil)) (LE.cat (LE.one (AL.int .u8 (IE.wrap .u8 (IE.bin BinOp.shr .u32 (IE.fn .u32 20 (AL.lst (LE.take (LE.rom 0) (IE.add (IE.fn .i64 4 (AL.lst (LE.rom 0) AL.nil)) (IE.fn .u64 3 (AL.lst (LE.rom 0) AL.nil)))) AL.nil)) (IE.lit 16))) AL.nil)) (LE.cat (LE.one (AL.int .u8 (IE.wrap .u8 (IE.bin BinOp.shr .u32 (IE.fn .u32 20 (AL.lst (LE.take (LE.rom 0) (IE.add (IE.fn .i64 4 (AL.lst (LE.rom 0) AL.nil)) (IE.fn .u64 3 (AL.lst (LE.rom 0) AL.nil)))) AL.nil)) (IE.lit 8))) AL.nil)) (LE.one (AL.int .u8 (IE.wrap .u8 (IE.fn .u32 20 (AL.lst (LE.take (LE.rom 0) (IE.add (IE.fn .i64 4 (AL.lst (LE.rom 0) AL.nil)) (IE.fn .u64 3 (AL.lst (LE.rom 0) AL.nil)))) AL.nil))) AL.nil))))) (LE.take (LE.drop (LE.rom 0) (IE.add (IE.fn .i64 4 (AL.lst (LE.rom 0) AL.nil)) (IE.fn .u64 3 (AL.lst (LE.rom 0) AL.nil)))) (IE.lit 4)))) :: pcopz_3) (some [(G.i (IE.fn .i64 22 (AL.lst (LE.rom 0) AL.nil)) (IE.lit 0)), (G.i (IE.lit 0) (IE.lit 120))]))
def wopz_4 : VW := (VW.done ((BE.not (BE.le (IE.add (IE.add (IE.fn .i64 4 (AL.lst (LE.rom 0) AL.nil)) (IE.fn .u64 3 (AL.lst (LE.rom 0) AL.nil))) (IE.lit 4)) (IE.len (LE.rom 0)))) :: pcopz_2) (some [(G.i (IE.fn .i64 22 (AL.lst (LE.rom 0) AL.nil)) (IE.lit 0)), (G.i (IE.lit 0) (IE.lit 110))]))
def wopz_5 : VW := (VW.done ((BE.not (BE.le (IE.fn .u64 3 (AL.lst (LE.rom 0) AL.nil)) (IE.lit 65536))) :: pcopz_1) (some [(G.i (IE.fn .i64 22 (AL.lst (LE.rom 0) AL.nil)) (IE.lit 0)), (G.i (IE.lit 0) (IE.lit 3))]))
def wopz_6 : VW := (VW.done ((BE.not (BE.eq (IE.fn .i64 5 (AL.lst (LE.rom 0) AL.nil)) (IE.lit 0))) :: pcopz_0) (some [(G.i (IE.fn .i64 22 (AL.lst (LE.rom 0) AL.nil)) (IE.lit 0)), (G.i (IE.lit 0) (IE.fn .i64 5 (AL.lst (LE.rom 0) AL.nil)))]))
def vwopz : List VW := [wopz_0, wopz_1, wopz_2, wopz_3, wopz_4, wopz_5, wopz_6]
end
theorem vcopz_0 : VD TTopz (st0 cOpenZ) wopz_0 := by
  intro ρ kn hp
  have hF : ρ.z.F = oct.Φ := kn.F
  simp only [h_nil, h_cons, d_le, d_eq, d_not, d_var, d_lit, d_cel, d_leq, d_fn, d_and, d_iff, IE.den, LE.den, AL.den, lenV, true_and, and_true, pcopz_4, pcopz_3, pcopz_2, pcopz_1, pcopz_0, hF, pi2, pi3, pi4, pi5, pi6, pi7, pi20, pl1, pi21, pi22, pl2, cE, cN, cV, cO, cM, sum_in, List.map_cons, List.map_nil, AV.cell, four_s] at hp
  obtain ⟨p1, p2, p3, p4, p5, p6, p7, p8, p9, p10⟩ := hp
  refine all_cons (show (clampK .i64 (ρ.z.F.i 22 [.lst (ρ.z.rl 0)])) = ((0 : Int) + (((clampK .i64 (ρ.z.F.i 4 [.lst (ρ.z.rl 0)])) + (clampK .u64 (ρ.z.F.i 3 [.lst (ρ.z.rl 0)]))) + (4 : Int))) from ?_) (all_nil)
  all_goals try simp only [hF, pi2, pi3, pi4, pi5, pi6, pi7, pi20, pl1, pi21, pi22, pl2, cE, cN, cV, cO, cM, sum_in, List.map_cons, List.map_nil, AV.cell, four_s]
  all_goals
    have hl := kn.ok.rl 0
    have hT : Typed byteK (ρ.z.rl 0) := kn.rom 0 _ _ rfl
    have hN := rdN_rng (ρ.z.rl 0)
    have hV := rdV_0 (ρ.z.rl 0)
    have hO : opE (ρ.z.rl 0) = 0 := by assumption
    have hM := opN_e hO
    have hLn := opL_len hO
    obtain ⟨k1, k2, k3, k4⟩ := op_ok hO
    try simp only [hF, pl5t hT]
    try simp only [pl5t hT] at *
    first
      | omega
      | exact absurd k4.symm p1
theorem vcopz_1 : VD TTopz (st0 cOpenZ) wopz_1 := by
  intro ρ kn hp
  have hF : ρ.z.F = oct.Φ := kn.F
  simp only [h_nil, h_cons, d_le, d_eq, d_not, d_var, d_lit, d_cel, d_leq, d_fn, d_and, d_iff, IE.den, LE.den, AL.den, lenV, true_and, and_true, pcopz_5, pcopz_4, pcopz_3, pcopz_2, pcopz_1, pcopz_0, hF, pi2, pi3, pi4, pi5, pi6, pi7, pi20, pl1, pi21, pi22, pl2, cE, cN, cV, cO, cM, sum_in, List.map_cons, List.map_nil, AV.cell, four_s] at hp
  obtain ⟨p1, p2, p3, p4, p5, p6, p7, p8, p9, p10, p11⟩ := hp
  refine all_cons (show (clampK .i64 (ρ.z.F.i 22 [.lst (ρ.z.rl 0)])) = ((0 : Int) + (((clampK .i64 (ρ.z.F.i 4 [.lst (ρ.z.rl 0)])) + (clampK .u64 (ρ.z.F.i 3 [.lst (ρ.z.rl 0)]))) + (4 : Int))) from ?_) (all_nil)
  all_goals try simp only [hF, pi2, pi3, pi4, pi5, pi6, pi7, pi20, pl1, pi21, pi22, pl2, cE, cN, cV, cO, cM, sum_in, List.map_cons, List.map_nil, AV.cell, four_s]
  all_goals
    have hl := kn.ok.rl 0
    have hT : Typed byteK (ρ.z.rl 0) := kn.rom 0 _ _ rfl
    have hN := rdN_rng (ρ.z.rl 0)
    have hV := rdV_0 (ρ.z.rl 0)
    have hO : opE (ρ.z.rl 0) = 0 := by assumption
    have hM := opN_e hO
    have hLn := opL_len hO
    obtain ⟨k1, k2, k3, k4⟩ := op_ok hO
    try simp only [hF, pl5t hT]
    try simp only [pl5t hT] at *
    first
      | omega
      | exact absurd k4.symm p1
theorem vcopz_2 : VD TTopz (st0 cOpenZ) wopz_2 := by
  intro ρ kn hp
  have hF : ρ.z.F = oct.Φ := kn.F
  simp only [h_nil, h_cons, d_le, d_eq, d_not, d_var, d_lit, d_cel, d_leq, d_fn, d_and, d_iff, IE.den, LE.den, AL.den, lenV, true_and, and_true, pcopz_5, pcopz_4, pcopz_3, pcopz_2, pcopz_1, pcopz_0, hF, pi2, pi3, pi4, pi5, pi6, pi7, pi20, pl1, pi21, pi22, pl2, cE, cN, cV, cO, cM, sum_in, List.map_cons, List.map_nil, AV.cell, four_s] at hp
  obtain ⟨p1, p2, p3, p4, p5, p6, p7, p8, p9, p10, p11⟩ := hp
  exfalso
  all_goals
    have hl := kn.ok.rl 0
    have hT : Typed byteK (ρ.z.rl 0) := kn.rom 0 _ _ rfl
    have hN := rdN_rng (ρ.z.rl 0)
    have hV := rdV_0 (ρ.z.rl 0)
    have hO : opE (ρ.z.rl 0) = 0 := by assumption
    have hM := opN_e hO
    have hLn := opL_len hO
    obtain ⟨k1, k2, k3, k4⟩ := op_ok hO
    try simp only [hF, pl5t hT]
    try simp only [pl5t hT] at *
    first
      | omega
      | exact absurd k4.symm p1
theorem vcopz_3 : VD TTopz (st0 cOpenZ) wopz_3 := by
  intro ρ kn hp
  have hF : ρ.z.F = oct.Φ := kn.F
  simp only [h_nil, h_cons, d_le, d_eq, d_not, d_var, d_lit, d_cel, d_leq, d_fn, d_and, d_iff, IE.den, LE.den, AL.den, lenV, true_and, and_true, pcopz_3, pcopz_2, pcopz_1, pcopz_0, hF, pi2, pi3, pi4, pi5, pi6, pi7, pi20, pl1, pi21, pi22, pl2, cE, cN, cV, cO, cM, sum_in, List.map_cons, List.map_nil, AV.cell, four_s] at hp
  obtain ⟨p1, p2, p3, p4, p5, p6, p7, p8, p9⟩ := hp
  refine all_cons (show (clampK .i64 (ρ.z.F.i 22 [.lst (ρ.z.rl 0)])) = (0 : Int) from ?_) (all_cons (show (0 : Int) = (120 : Int) from ?_) (all_nil))
  all_goals try simp only [hF, pi2, pi3, pi4, pi5, pi6, pi7, pi20, pl1, pi21, pi22, pl2, cE, cN, cV, cO, cM, sum_in, List.map_cons, List.map_nil, AV.cell, four_s]
  all_goals
    have hl := kn.ok.rl 0
    have hT : Typed byteK (ρ.z.rl 0) := kn.rom 0 _ _ rfl
    have hN := rdN_rng (ρ.z.rl 0)
    have hV := rdV_0 (ρ.z.rl 0)
    have hO : opE (ρ.z.rl 0) = 0 := by assumption
    have hM := opN_e hO
    have hLn := opL_len hO
    obtain ⟨k1, k2, k3, k4⟩ := op_ok hO
    try simp only [hF, pl5t hT]
    try simp only [pl5t hT] at *
    first
      | omega
      | exact absurd k4.symm p1
theorem vcopz_4 : VD TTopz (st0 cOpenZ) wopz_4 := by
  intro ρ kn hp
  have hF : ρ.z.F = oct.Φ := kn.F
  simp only [h_nil, h_cons, d_le, d_eq, d_not, d_var, d_lit, d_cel, d_leq, d_fn, d_and, d_iff, IE.den, LE.den, AL.den, lenV, true_and, and_true, pcopz_2, pcopz_1, pcopz_0, hF, pi2, pi3, pi4, pi5, pi6, pi7, pi20, pl1, pi21, pi22, pl2, cE, cN, cV, cO, cM, sum_in, List.map_cons, List.map_nil, AV.cell, four_s] at hp
  obtain ⟨p1, p2, p3, p4, p5, p6, p7, p8⟩ := hp
  refine all_cons (show (clampK .i64 (ρ.z.F.i 22 [.lst (ρ.z.rl 0)])) = (0 : Int) from ?_) (all_cons (show (0 : Int) = (110 : Int) from ?_) (all_nil))
  all_goals try simp only [hF, pi2, pi3, pi4, pi5, pi6, pi7, pi20, pl1, pi21, pi22, pl2, cE, cN, cV, cO, cM, sum_in, List.map_cons, List.map_nil, AV.cell, four_s]
  all_goals
    have hl := kn.ok.rl 0
    have hT : Typed byteK (ρ.z.rl 0) := kn.rom 0 _ _ rfl
    have hN := rdN_rng (ρ.z.rl 0)
    have hV := rdV_0 (ρ.z.rl 0)
    have hO : opE (ρ.z.rl 0) = 0 := by assumption
    have hM := opN_e hO
    have hLn := opL_len hO
    obtain ⟨k1, k2, k3, k4⟩ := op_ok hO
    try simp only [hF, pl5t hT]
    try simp only [pl5t hT] at *
    first
      | omega
      | exact absurd k4.symm p1
theorem vcopz_5 : VD TTopz (st0 cOpenZ) wopz_5 := by
  intro ρ kn hp
  have hF : ρ.z.F = oct.Φ := kn.F
  simp only [h_nil, h_cons, d_le, d_eq, d_not, d_var, d_lit, d_cel, d_leq, d_fn, d_and, d_iff, IE.den, LE.den, AL.den, lenV, true_and, and_true, pcopz_1, pcopz_0, hF, pi2, pi3, pi4, pi5, pi6, pi7, pi20, pl1, pi21, pi22, pl2, cE, cN, cV, cO, cM, sum_in, List.map_cons, List.map_nil, AV.cell, four_s] at hp
  obtain ⟨p1, p2, p3, p4, p5, p6, p7⟩ := hp
  refine all_cons (show (clampK .i64 (ρ.z.F.i 22 [.lst (ρ.z.rl 0)])) = (0 : Int) from ?_) (all_cons (show (0 : Int) = (3 : Int) from ?_) (all_nil))
  all_goals try simp only [hF, pi2, pi3, pi4, pi5, pi6, pi7, pi20, pl1, pi21, pi22, pl2, cE, cN, cV, cO, cM, sum_in, List.map_cons, List.map_nil, AV.cell, four_s]
  all_goals
    have hl := kn.ok.rl 0
    have hT : Typed byteK (ρ.z.rl 0) := kn.rom 0 _ _ rfl
    have hN := rdN_rng (ρ.z.rl 0)
    have hV := rdV_0 (ρ.z.rl 0)
    have hO : opE (ρ.z.rl 0) = 0 := by assumption
    have hM := opN_e hO
    have hLn := opL_len hO
    obtain ⟨k1, k2, k3, k4⟩ := op_ok hO
    try simp only [hF, pl5t hT]
    try simp only [pl5t hT] at *
    first
      | omega
      | exact absurd k4.symm p1
theorem vcopz_6 : VD TTopz (st0 cOpenZ) wopz_6 := by
  intro ρ kn hp
  have hF : ρ.z.F = oct.Φ := kn.F
  simp only [h_nil, h_cons, d_le, d_eq, d_not, d_var, d_lit, d_cel, d_leq, d_fn, d_and, d_iff, IE.den, LE.den, AL.den, lenV, true_and, and_true, pcopz_0, hF, pi2, pi3, pi4, pi5, pi6, pi7, pi20, pl1, pi21, pi22, pl2, cE, cN, cV, cO, cM, sum_in, List.map_cons, List.map_nil, AV.cell, four_s] at hp
  obtain ⟨p1, p2, p3, p4, p5, p6⟩ := hp
  refine all_cons (show (clampK .i64 (ρ.z.F.i 22 [.lst (ρ.z.rl 0)])) = (0 : Int) from ?_) (all_cons (show (0 : Int) = (clampK .i64 (ρ.z.F.i 5 [.lst (ρ.z.rl 0)])) from ?_) (all_nil))
  all_goals try simp only [hF, pi2, pi3, pi4, pi5, pi6, pi7, pi20, pl1, pi21, pi22, pl2, cE, cN, cV, cO, cM, sum_in, List.map_cons, List.map_nil, AV.cell, four_s]
  all_goals
    have hl := kn.ok.rl 0
    have hT : Typed byteK (ρ.z.rl 0) := kn.rom 0 _ _ rfl
    have hN := rdN_rng (ρ.z.rl 0)
    have hV := rdV_0 (ρ.z.rl 0)
    have hO : opE (ρ.z.rl 0) = 0 := by assumption
    have hM := opN_e hO
    have hLn := opL_len hO
    obtain ⟨k1, k2, k3, k4⟩ := op_ok hO
    try simp only [hF, pl5t hT]
    try simp only [pl5t hT] at *
    first
      | omega
      | exact absurd k4.symm p1
theorem told_opz : Sx.Told oct.Φ cOpenZ := told_vwM (cs := [cRead]) (ms' := [mFill, mSum]) (all_cons told_read (all_nil)) (all_cons told_mfill (all_cons told_msum (all_nil))) 4000 vwopz (by kernel_rfl) (by kernel_rfl) (by kernel_rfl) (post_op rfl rfl) (by kernel_rfl) (by kernel_rfl) (all_cons vcopz_0 (all_cons vcopz_1 (all_cons vcopz_2 (all_cons vcopz_3 (all_cons vcopz_4 (all_cons vcopz_5 (all_cons vcopz_6 (all_nil))))))))
noncomputable section
abbrev TTopy : Tab := TM oct.Φ cOpenY.roms [cRead] [mFill, mSum]
def pcopy_0 : List BE := [(BE.le (IE.lit 0) (IE.fn .i64 4 (AL.lst (LE.rom 0) AL.nil))), (BE.le (IE.fn .i64 4 (AL.lst (LE.rom 0) AL.nil)) (IE.len (LE.rom 0))), (BE.le (IE.fn .i64 4 (AL.lst (LE.rom 0) AL.nil)) (IE.lit 10)), (BE.lit true), (BE.eq (IE.fn .i64 21 (AL.lst (LE.rom 0) AL.nil)) (IE.lit 0)), (BE.not (BE.eq (IE.len (LE.fn 5 (AL.lst (LE.rom 0) AL.nil))) (IE.lit 0)))]
def pcopy_1 : List BE := ((BE.eq (IE.fn .i64 5 (AL.lst (LE.rom 0) AL.nil)) (IE.lit 0)) :: pcopy_0)
def pcopy_2 : List BE := ((BE.le (IE.fn .u64 3 (AL.lst (LE.rom 0) AL.nil)) (IE.lit 65536)) :: pcopy_1)
def pcopy_3 : List BE := ((BE.le (IE.add (IE.add (IE.fn .i64 4 (AL.lst (LE.rom 0) AL.nil)) (IE.fn .u64 3 (AL.lst (LE.rom 0) AL.nil))) (IE.lit 4)) (IE.len (LE.rom 0))) :: pcopy_2)
def pcopy_4 : List BE := ((BE.leq (LE.cat (LE.one (AL.int .u8 (IE.wrap .u8 (IE.bin BinOp.shr .u32 (IE.fn .u32 20 (AL.lst (LE.take (LE.rom 0) (IE.add (IE.fn .i64 4 (AL.lst (LE.rom 0) AL.nil)) (IE.fn .u64 3 (AL.lst (LE.rom 0) AL.nil)))) AL.nil)) (IE.lit 24))) AL.nil)) (LE.cat (LE.one (AL.int .u8 (IE.wrap .u8 (IE.bin BinOp.shr .u32 (IE.fn .u32 20 (AL.lst (LE.take (LE.rom 0) (IE.add (IE.fn .i64 4 (AL.lst (LE.rom 0) AL.nil)) (IE.fn .u64 3 (AL.lst (LE.rom 0) AL.nil)))) AL.nil)) (IE.lit 16))) AL.nil)) (LE.cat (LE.one (AL.int .u8 (IE.wrap .u8 (IE.bin BinOp.shr .u32 (IE.fn .u32 20 (AL.lst (LE.take (LE.rom 0) (IE.add (IE.fn .i64 4 (AL.lst (LE.rom 0) AL.nil)) (IE.fn .u64 3 (AL.lst (LE.rom 0) AL.nil)))) AL.nil)) (IE.lit 8))) AL.nil)) (LE.one (AL.int .u8 (IE.wrap .u8 (IE.fn .u32 20 (AL.lst (LE.take (LE.rom 0) (IE.add (IE.fn .i64 4 (AL.lst (LE.rom 0) AL.nil)) (IE.fn .u64 3 (AL.lst (LE.rom 0) AL.nil)))) AL.nil))) AL.nil))))) (LE.take (LE.drop (LE.rom 0) (IE.add (IE.fn .i64 4 (AL.lst (LE.rom 0) AL.nil)) (IE.fn .u64 3 (AL.lst (LE.rom 0) AL.nil)))) (IE.lit 4))) :: pcopy_3)
def pcopy_5 : List BE := ((BE.not (BE.eq (IE.add (IE.fn .i64 4 (AL.lst (LE.rom 0) AL.nil)) (IE.fn .u64 3 (AL.lst (LE.rom 0) AL.nil))) (IE.fn .i64 4 (AL.lst (LE.rom 0) AL.nil)))) :: pcopy_4)
def wopy_0 : VW := (VW.done ((BE.eq (IE.add (IE.fn .i64 4 (AL.lst (LE.rom 0) AL.nil)) (IE.fn .u64 3 (AL.lst (LE.rom 0) AL.nil))) (IE.fn .i64 4 (AL.lst (LE.rom 0) AL.nil))) :: pcopy_4) (some [(G.b (BE.lit true) (BE.lit false))]))
def wopy_1 : VW := (VW.done ((BE.le (IE.fn .u64 3 (AL.lst (LE.rom 0) AL.nil)) (IE.lit 0)) :: pcopy_5) (some [(G.b (BE.lit true) (BE.lit false))]))
def wopy_2 : VW := (VW.done ((BE.not (BE.le (IE.fn .u64 3 (AL.lst (LE.rom 0) AL.nil)) (IE.lit 0))) :: pcopy_5) (some [(G.i (IE.len (LE.fn 5 (AL.lst (LE.rom 0) AL.nil))) (IE.fn .u64 3 (AL.lst (LE.rom 0) AL.nil))), (G.i (IE.fn .i64 22 (AL.lst (LE.rom 0) AL.nil)) (IE.add (IE.lit 0) (IE.add (IE.add (IE.fn .i64 4 (AL.lst (LE.rom 0) AL.nil)) (IE.fn .u64 3 (AL.lst (LE.rom 0) AL.nil))) (IE.lit 4)))), (G.l (LE.fn 5 (AL.lst (LE.rom 0) AL.nil)) (LE.take (LE.drop (LE.rom 0) (IE.fn .i64 4 (AL.lst (LE.rom 0) AL.nil))) (IE.fn .u64 3 (AL.lst (LE.rom 0) AL.nil)))), (G.i (IE.len (LE.fn 5 (AL.lst (LE.rom 0) AL.nil))) (IE.fn .u64 3 (AL.lst (LE.rom 0) AL.nil)))]))
def wopy_3 : VW := (VW.done ((BE.not (BE.leq (LE.cat (LE.one (AL.int .u8 (IE.wrap .u8 (IE.bin BinOp.shr .u32 (IE.fn .u32 20 (AL.lst (LE.take (LE.rom 0) (IE.add (IE.fn .i64 4 (AL.lst (LE.rom 0) AL.nil)) (IE.fn .u64 3 (AL.lst (LE.rom 0) AL.nil)))) AL.nil)) (IE.lit 24))) AL.nil)) (LE.cat (LE.one (AL.int .u8 (IE.wrap .u8 (IE.bin BinOp.shr .u32 (IE.fn .u32 20 (AL.lst (LE.take (LE.rom 0) (IE.add (IE.fn .i64 4 (AL.lst (LE.rom 0) AL.nil)) (IE.fn .u64 3 (AL.lst (LE.rom 0) AL.nil)))) AL.nil)) (IE.lit 16))) AL.nil)) (LE.cat (LE.one (AL.int .u8 (IE.wrap .u8 (IE.bin BinOp.shr .u32 (IE.fn .u32 20 (AL.lst (LE.take (LE.rom 0) (IE.add (IE.fn .i64 4 (AL.lst (LE.rom 0) AL.nil)) (IE.fn .u64 3 (AL.lst (LE.rom 0) AL.nil)))) AL.nil)) (IE.lit 8))) AL.nil)) (LE.one (AL.int .u8 (IE.wrap .u8 (IE.fn .u32 20 (AL.lst (LE.take (LE.rom 0) (IE.add (IE.fn .i64 4 (AL.lst (LE.rom 0) AL.nil)) (IE.fn .u64 3 (AL.lst (LE.rom 0) AL.nil)))) AL.nil))) AL.nil))))) (LE.take (LE.drop (LE.rom 0) (IE.add (IE.fn .i64 4 (AL.lst (LE.rom 0) AL.nil)) (IE.fn .u64 3 (AL.lst (LE.rom 0) AL.nil)))) (IE.lit 4)))) :: pcopy_3) (some [(G.b (BE.lit true) (BE.lit false))]))
def wopy_4 : VW := (VW.done ((BE.not (BE.le (IE.add (IE.add (IE.fn .i64 4 (AL.lst (LE.rom 0) AL.nil)) (IE.fn .u64 3 (AL.lst (LE.rom 0) AL.nil))) (IE.lit 4)) (IE.len (LE.rom 0)))) :: pcopy_2) (some [(G.b (BE.lit true) (BE.lit false))]))
def wopy_5 : VW := (VW.done ((BE.not (BE.le (IE.fn .u64 3 (AL.lst (LE.rom 0) AL.nil)) (IE.lit 65536))) :: pcopy_1) (some [(G.b (BE.lit true) (BE.lit false))]))
def wopy_6 : VW := (VW.done ((BE.not (BE.eq (IE.fn .i64 5 (AL.lst (LE.rom 0) AL.nil)) (IE.lit 0))) :: pcopy_0) (some [(G.b (BE.lit true) (BE.lit false))]))
def vwopy : List VW := [wopy_0, wopy_1, wopy_2, wopy_3, wopy_4, wopy_5, wopy_6]
end
theorem vcopy_0 : VD TTopy (st0 cOpenY) wopy_0 := by
  intro ρ kn hp
  have hF : ρ.z.F = oct.Φ := kn.F
  simp only [h_nil, h_cons, d_le, d_eq, d_not, d_var, d_lit, d_cel, d_leq, d_fn, d_and, d_iff, IE.den, LE.den, AL.den, lenV, true_and, and_true, pcopy_4, pcopy_3, pcopy_2, pcopy_1, pcopy_0, hF, pi2, pi3, pi4, pi5, pi6, pi7, pi20, pl1, pi21, pi22, pl2, cE, cN, cV, cO, cM, sum_in, List.map_cons, List.map_nil, AV.cell, four_s] at hp
  obtain ⟨p1, p2, p3, p4, p5, p6, p7, p8, p9, p10⟩ := hp
  exfalso
  all_goals
    have hl := kn.ok.rl 0
    have hT : Typed byteK (ρ.z.rl 0) := kn.rom 0 _ _ rfl
    have hN := rdN_rng (ρ.z.rl 0)
    have hV := rdV_0 (ρ.z.rl 0)
    have hO : opE (ρ.z.rl 0) = 0 := by assumption
    have hM := opN_e hO
    have hLn := opL_len hO
    obtain ⟨k1, k2, k3, k4⟩ := op_ok hO
    try simp only [hF, pl5t hT]
    try simp only [pl5t hT] at *
    first
      | omega
      | exact absurd k4.symm p1
theorem vcopy_1 : VD TTopy (st0 cOpenY) wopy_1 := by
  intro ρ kn hp
  have hF : ρ.z.F = oct.Φ := kn.F
  simp only [h_nil, h_cons, d_le, d_eq, d_not, d_var, d_lit, d_cel, d_leq, d_fn, d_and, d_iff, IE.den, LE.den, AL.den, lenV, true_and, and_true, pcopy_5, pcopy_4, pcopy_3, pcopy_2, pcopy_1, pcopy_0, hF, pi2, pi3, pi4, pi5, pi6, pi7, pi20, pl1, pi21, pi22, pl2, cE, cN, cV, cO, cM, sum_in, List.map_cons, List.map_nil, AV.cell, four_s] at hp
  obtain ⟨p1, p2, p3, p4, p5, p6, p7, p8, p9, p10, p11⟩ := hp
  exfalso
  all_goals
    have hl := kn.ok.rl 0
    have hT : Typed byteK (ρ.z.rl 0) := kn.rom 0 _ _ rfl
    have hN := rdN_rng (ρ.z.rl 0)
    have hV := rdV_0 (ρ.z.rl 0)
    have hO : opE (ρ.z.rl 0) = 0 := by assumption
    have hM := opN_e hO
    have hLn := opL_len hO
    obtain ⟨k1, k2, k3, k4⟩ := op_ok hO
    try simp only [hF, pl5t hT]
    try simp only [pl5t hT] at *
    first
      | omega
      | exact absurd k4.symm p1
theorem vcopy_2 : VD TTopy (st0 cOpenY) wopy_2 := by
  intro ρ kn hp
  have hF : ρ.z.F = oct.Φ := kn.F
  simp only [h_nil, h_cons, d_le, d_eq, d_not, d_var, d_lit, d_cel, d_leq, d_fn, d_and, d_iff, IE.den, LE.den, AL.den, lenV, true_and, and_true, pcopy_5, pcopy_4, pcopy_3, pcopy_2, pcopy_1, pcopy_0, hF, pi2, pi3, pi4, pi5, pi6, pi7, pi20, pl1, pi21, pi22, pl2, cE, cN, cV, cO, cM, sum_in, List.map_cons, List.map_nil, AV.cell, four_s] at hp
  obtain ⟨p1, p2, p3, p4, p5, p6, p7, p8, p9, p10, p11⟩ := hp
  refine all_cons (show (((ρ.z.F.l 5 [.lst (ρ.z.rl 0)]).length : Nat) : Int) = (clampK .u64 (ρ.z.F.i 3 [.lst (ρ.z.rl 0)])) from ?_) (all_cons (show (clampK .i64 (ρ.z.F.i 22 [.lst (ρ.z.rl 0)])) = ((0 : Int) + (((clampK .i64 (ρ.z.F.i 4 [.lst (ρ.z.rl 0)])) + (clampK .u64 (ρ.z.F.i 3 [.lst (ρ.z.rl 0)]))) + (4 : Int))) from ?_) (all_cons (show (ρ.z.F.l 5 [.lst (ρ.z.rl 0)]) = (((ρ.z.rl 0).drop (clampK .i64 (ρ.z.F.i 4 [.lst (ρ.z.rl 0)])).toNat).take (clampK .u64 (ρ.z.F.i 3 [.lst (ρ.z.rl 0)])).toNat) from ?_) (all_cons (show (((ρ.z.F.l 5 [.lst (ρ.z.rl 0)]).length : Nat) : Int) = (clampK .u64 (ρ.z.F.i 3 [.lst (ρ.z.rl 0)])) from ?_) (all_nil))))
  all_goals try simp only [hF, pi2, pi3, pi4, pi5, pi6, pi7, pi20, pl1, pi21, pi22, pl2, cE, cN, cV, cO, cM, sum_in, List.map_cons, List.map_nil, AV.cell, four_s]
  all_goals
    have hl := kn.ok.rl 0
    have hT : Typed byteK (ρ.z.rl 0) := kn.rom 0 _ _ rfl
    have hN := rdN_rng (ρ.z.rl 0)
    have hV := rdV_0 (ρ.z.rl 0)
    have hO : opE (ρ.z.rl 0) = 0 := by assumption
    have hM := opN_e hO
    have hLn := opL_len hO
    obtain ⟨k1, k2, k3, k4⟩ := op_ok hO
    try simp only [hF, pl5t hT]
    try simp only [pl5t hT] at *
    first
      | omega
      | (rw [opL_e hO]; done)
      | exact opL_e hO
theorem vcopy_3 : VD TTopy (st0 cOpenY) wopy_3 := by
  intro ρ kn hp
  have hF : ρ.z.F = oct.Φ := kn.F
  simp only [h_nil, h_cons, d_le, d_eq, d_not, d_var, d_lit, d_cel, d_leq, d_fn, d_and, d_iff, IE.den, LE.den, AL.den, lenV, true_and, and_true, pcopy_3, pcopy_2, pcopy_1, pcopy_0, hF, pi2, pi3, pi4, pi5, pi6, pi7, pi20, pl1, pi21, pi22, pl2, cE, cN, cV, cO, cM, sum_in, List.map_cons, List.map_nil, AV.cell, four_s] at hp
  obtain ⟨p1, p2, p3, p4, p5, p6, p7, p8, p9⟩ := hp
  exfalso
  all_goals
    have hl := kn.ok.rl 0
    have hT : Typed byteK (ρ.z.rl 0) := kn.rom 0 _ _ rfl
    have hN := rdN_rng (ρ.z.rl 0)
    have hV := rdV_0 (ρ.z.rl 0)
    have hO : opE (ρ.z.rl 0) = 0 := by assumption
    have hM := opN_e hO
    have hLn := opL_len hO
    obtain ⟨k1, k2, k3, k4⟩ := op_ok hO
    try simp only [hF, pl5t hT]
    try simp only [pl5t hT] at *
    first
      | omega
      | exact absurd k4.symm p1
theorem vcopy_4 : VD TTopy (st0 cOpenY) wopy_4 := by
  intro ρ kn hp
  have hF : ρ.z.F = oct.Φ := kn.F
  simp only [h_nil, h_cons, d_le, d_eq, d_not, d_var, d_lit, d_cel, d_leq, d_fn, d_and, d_iff, IE.den, LE.den, AL.den, lenV, true_and, and_true, pcopy_2, pcopy_1, pcopy_0, hF, pi2, pi3, pi4, pi5, pi6, pi7, pi20, pl1, pi21, pi22, pl2, cE, cN, cV, cO, cM, sum_in, List.map_cons, List.map_nil, AV.cell, four_s] at hp
  obtain ⟨p1, p2, p3, p4, p5, p6, p7, p8⟩ := hp
  exfalso
  all_goals
    have hl := kn.ok.rl 0
    have hT : Typed byteK (ρ.z.rl 0) := kn.rom 0 _ _ rfl
    have hN := rdN_rng (ρ.z.rl 0)
    have hV := rdV_0 (ρ.z.rl 0)
    have hO : opE (ρ.z.rl 0) = 0 := by assumption
    have hM := opN_e hO
    have hLn := opL_len hO
    obtain ⟨k1, k2, k3, k4⟩ := op_ok hO
    try simp only [hF, pl5t hT]
    try simp only [pl5t hT] at *
    first
      | omega
      | exact absurd k4.symm p1
theorem vcopy_5 : VD TTopy (st0 cOpenY) wopy_5 := by
  intro ρ kn hp
  have hF : ρ.z.F = oct.Φ := kn.F
  simp only [h_nil, h_cons, d_le, d_eq, d_not, d_var, d_lit, d_cel, d_leq, d_fn, d_and, d_iff, IE.den, LE.den, AL.den, lenV, true_and, and_true, pcopy_1, pcopy_0, hF, pi2, pi3, pi4, pi5, pi6, pi7, pi20, pl1, pi21, pi22, pl2, cE, cN, cV, cO, cM, sum_in, List.map_cons, List.map_nil, AV.cell, four_s] at hp
  obtain ⟨p1, p2, p3, p4, p5, p6, p7⟩ := hp
  exfalso
  all_goals
    have hl := kn.ok.rl 0
    have hT : Typed byteK (ρ.z.rl 0) := kn.rom 0 _ _ rfl
    have hN := rdN_rng (ρ.z.rl 0)
    have hV := rdV_0 (ρ.z.rl 0)
    have hO : opE (ρ.z.rl 0) = 0 := by assumption
    have hM := opN_e hO
    have hLn := opL_len hO
    obtain ⟨k1, k2, k3, k4⟩ := op_ok hO
    try simp only [hF, pl5t hT]
    try simp only [pl5t hT] at *
    first
      | omega
      | exact absurd k4.symm p1
theorem vcopy_6 : VD TTopy (st0 cOpenY) wopy_6 := by
  intro ρ kn hp
  have hF : ρ.z.F = oct.Φ := kn.F
  simp only [h_nil, h_cons, d_le, d_eq, d_not, d_var, d_lit, d_cel, d_leq, d_fn, d_and, d_iff, IE.den, LE.den, AL.den, lenV, true_and, and_true, pcopy_0, hF, pi2, pi3, pi4, pi5, pi6, pi7, pi20, pl1, pi21, pi22, pl2, cE, cN, cV, cO, cM, sum_in, List.map_cons, List.map_nil, AV.cell, four_s] at hp
  obtain ⟨p1, p2, p3, p4, p5, p6⟩ := hp
  exfalso
  all_goals
    have hl := kn.ok.rl 0
    have hT : Typed byteK (ρ.z.rl 0) := kn.rom 0 _ _ rfl
    have hN := rdN_rng (ρ.z.rl 0)
    have hV := rdV_0 (ρ.z.rl 0)
    have hO : opE (ρ.z.rl 0) = 0 := by assumption
    have hM := opN_e hO
    have hLn := opL_len hO
    obtain ⟨k1, k2, k3, k4⟩ := op_ok hO
    try simp only [hF, pl5t hT]
    try simp only [pl5t hT] at *
    first
      | omega
      | exact absurd k4.symm p1
theorem told_opy : Sx.Told oct.Φ cOpenY := told_vwM (cs := [cRead]) (ms' := [mFill, mSum]) (all_cons told_read (all_nil)) (all_cons told_mfill (all_cons told_msum (all_nil))) 4000 vwopy (by kernel_rfl) (by kernel_rfl) (by kernel_rfl) (post_op rfl rfl) (by kernel_rfl) (by kernel_rfl) (all_cons vcopy_0 (all_cons vcopy_1 (all_cons vcopy_2 (all_cons vcopy_3 (all_cons vcopy_4 (all_cons vcopy_5 (all_cons vcopy_6 (all_nil))))))))
end Go.Proofs.Ythbnjmmkjpoahaa.oct
