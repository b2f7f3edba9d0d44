/- Layer seal: a frame with a bit turned over. No condition. -/
import Derived.Test.YthbnjmmkjpoahaaQq0
set_option linter.unusedVariables false
set_option linter.unusedSimpArgs false
set_option linter.deprecated false
namespace Go.Proofs.Ythbnjmmkjpoahaa.oct
open Go Go.Proofs.Ythbnjmmkjpoahaa.Sx
noncomputable section
abbrev TTtua : Tab := T oct.Φ cTuA.roms [cWorks, cRRead, cRSum, cOpenNo, cOpenZ, cOpenY, cSeal, cRSeal, cSealX, cRSealX, cSealNil, cOpenNil]
def pctua_0 : List BE := [(BE.lit true), (BE.le (IE.lit 1) (IE.len (LE.rom 0))), (BE.le (IE.lit 0) (IE.var .i64 1)), (BE.le (IE.lit 0) (IE.bin BinOp.quo .i64 (IE.var .i64 1) (IE.lit 8))), (BE.le (IE.mul (IE.lit 8) (IE.bin BinOp.quo .i64 (IE.var .i64 1) (IE.lit 8))) (IE.var .i64 1)), (BE.le (IE.lit 0) (IE.bin BinOp.rem .i64 (IE.var .i64 1) (IE.lit 8))), (BE.le (IE.bin BinOp.rem .i64 (IE.var .i64 1) (IE.lit 8)) (IE.lit 7))]
def pctua_1 : List BE := ((BE.le (IE.add (IE.len (LE.rom 0)) (IE.lit 5)) (IE.len (LE.fn 3 (AL.lst (LE.rom 0) AL.nil)))) :: (BE.le (IE.len (LE.fn 3 (AL.lst (LE.rom 0) AL.nil))) (IE.add (IE.len (LE.rom 0)) (IE.lit 14))) :: (BE.le (IE.len (LE.rom 0)) (IE.lit 2000)) :: pctua_0)
def pctua_2 : List BE := ((BE.not (BE.le (IE.mul (IE.lit 8) (IE.sub (IE.len (LE.fn 3 (AL.lst (LE.rom 0) AL.nil))) (IE.sub (IE.sub (IE.len (LE.fn 3 (AL.lst (LE.rom 0) AL.nil))) (IE.len (LE.rom 0))) (IE.lit 4)))) (IE.var .i64 1))) :: pctua_1)
def pctua_3 : List BE := ((BE.eq (IE.fn .i64 21 (AL.lst (LE.set (LE.fn 3 (AL.lst (LE.rom 0) AL.nil)) (IE.add (IE.sub (IE.sub (IE.len (LE.fn 3 (AL.lst (LE.rom 0) AL.nil))) (IE.len (LE.rom 0))) (IE.lit 4)) (IE.bin BinOp.quo .i64 (IE.var .i64 1) (IE.lit 8))) (AL.int .u8 (IE.bin BinOp.xor .u8 (IE.cel .u8 (LE.fn 3 (AL.lst (LE.rom 0) AL.nil)) (IE.add (IE.sub (IE.sub (IE.len (LE.fn 3 (AL.lst (LE.rom 0) AL.nil))) (IE.len (LE.rom 0))) (IE.lit 4)) (IE.bin BinOp.quo .i64 (IE.var .i64 1) (IE.lit 8))) 0) (IE.bin BinOp.shl .u8 (IE.lit 1) (IE.bin BinOp.rem .i64 (IE.var .i64 1) (IE.lit 8)))) AL.nil)) AL.nil)) (IE.lit 0)) :: pctua_2)
def pctua_4 : List BE := ((BE.not (BE.eq (IE.fn .i64 21 (AL.lst (LE.set (LE.fn 3 (AL.lst (LE.rom 0) AL.nil)) (IE.add (IE.sub (IE.sub (IE.len (LE.fn 3 (AL.lst (LE.rom 0) AL.nil))) (IE.len (LE.rom 0))) (IE.lit 4)) (IE.bin BinOp.quo .i64 (IE.var .i64 1) (IE.lit 8))) (AL.int .u8 (IE.bin BinOp.xor .u8 (IE.cel .u8 (LE.fn 3 (AL.lst (LE.rom 0) AL.nil)) (IE.add (IE.sub (IE.sub (IE.len (LE.fn 3 (AL.lst (LE.rom 0) AL.nil))) (IE.len (LE.rom 0))) (IE.lit 4)) (IE.bin BinOp.quo .i64 (IE.var .i64 1) (IE.lit 8))) 0) (IE.bin BinOp.shl .u8 (IE.lit 1) (IE.bin BinOp.rem .i64 (IE.var .i64 1) (IE.lit 8)))) AL.nil)) AL.nil)) (IE.lit 0))) :: pctua_2)
def wtua_0 : VW := (VW.done ((BE.le (IE.mul (IE.lit 8) (IE.sub (IE.len (LE.fn 3 (AL.lst (LE.rom 0) AL.nil))) (IE.sub (IE.sub (IE.len (LE.fn 3 (AL.lst (LE.rom 0) AL.nil))) (IE.len (LE.rom 0))) (IE.lit 4)))) (IE.var .i64 1)) :: pctua_1) (some []))
def wtua_1 : VW := (VW.done ((BE.le (IE.lit 5) (IE.fn .i64 22 (AL.lst (LE.set (LE.fn 3 (AL.lst (LE.rom 0) AL.nil)) (IE.add (IE.sub (IE.sub (IE.len (LE.fn 3 (AL.lst (LE.rom 0) AL.nil))) (IE.len (LE.rom 0))) (IE.lit 4)) (IE.bin BinOp.quo .i64 (IE.var .i64 1) (IE.lit 8))) (AL.int .u8 (IE.bin BinOp.xor .u8 (IE.cel .u8 (LE.fn 3 (AL.lst (LE.rom 0) AL.nil)) (IE.add (IE.sub (IE.sub (IE.len (LE.fn 3 (AL.lst (LE.rom 0) AL.nil))) (IE.len (LE.rom 0))) (IE.lit 4)) (IE.bin BinOp.quo .i64 (IE.var .i64 1) (IE.lit 8))) 0) (IE.bin BinOp.shl .u8 (IE.lit 1) (IE.bin BinOp.rem .i64 (IE.var .i64 1) (IE.lit 8)))) AL.nil)) AL.nil))) :: (BE.le (IE.fn .i64 22 (AL.lst (LE.set (LE.fn 3 (AL.lst (LE.rom 0) AL.nil)) (IE.add (IE.sub (IE.sub (IE.len (LE.fn 3 (AL.lst (LE.rom 0) AL.nil))) (IE.len (LE.rom 0))) (IE.lit 4)) (IE.bin BinOp.quo .i64 (IE.var .i64 1) (IE.lit 8))) (AL.int .u8 (IE.bin BinOp.xor .u8 (IE.cel .u8 (LE.fn 3 (AL.lst (LE.rom 0) AL.nil)) (IE.add (IE.sub (IE.sub (IE.len (LE.fn 3 (AL.lst (LE.rom 0) AL.nil))) (IE.len (LE.rom 0))) (IE.lit 4)) (IE.bin BinOp.quo .i64 (IE.var .i64 1) (IE.lit 8))) 0) (IE.bin BinOp.shl .u8 (IE.lit 1) (IE.bin BinOp.rem .i64 (IE.var .i64 1) (IE.lit 8)))) AL.nil)) AL.nil)) (IE.len (LE.fn 3 (AL.lst (LE.rom 0) AL.nil)))) :: (BE.eq (IE.len (LE.fn 5 (AL.lst (LE.set (LE.fn 3 (AL.lst (LE.rom 0) AL.nil)) (IE.add (IE.sub (IE.sub (IE.len (LE.fn 3 (AL.lst (LE.rom 0) AL.nil))) (IE.len (LE.rom 0))) (IE.lit 4)) (IE.bin BinOp.quo .i64 (IE.var .i64 1) (IE.lit 8))) (AL.int .u8 (IE.bin BinOp.xor .u8 (IE.cel .u8 (LE.fn 3 (AL.lst (LE.rom 0) AL.nil)) (IE.add (IE.sub (IE.sub (IE.len (LE.fn 3 (AL.lst (LE.rom 0) AL.nil))) (IE.len (LE.rom 0))) (IE.lit 4)) (IE.bin BinOp.quo .i64 (IE.var .i64 1) (IE.lit 8))) 0) (IE.bin BinOp.shl .u8 (IE.lit 1) (IE.bin BinOp.rem .i64 (IE.var .i64 1) (IE.lit 8)))) AL.nil)) AL.nil))) (IE.lit 0)) :: pctua_3) (some [(G.b (BE.lit true) (BE.lit false))]))
def wtua_2 : VW := (VW.done ((BE.le (IE.lit 5) (IE.fn .i64 22 (AL.lst (LE.set (LE.fn 3 (AL.lst (LE.rom 0) AL.nil)) (IE.add (IE.sub (IE.sub (IE.len (LE.fn 3 (AL.lst (LE.rom 0) AL.nil))) (IE.len (LE.rom 0))) (IE.lit 4)) (IE.bin BinOp.quo .i64 (IE.var .i64 1) (IE.lit 8))) (AL.int .u8 (IE.bin BinOp.xor .u8 (IE.cel .u8 (LE.fn 3 (AL.lst (LE.rom 0) AL.nil)) (IE.add (IE.sub (IE.sub (IE.len (LE.fn 3 (AL.lst (LE.rom 0) AL.nil))) (IE.len (LE.rom 0))) (IE.lit 4)) (IE.bin BinOp.quo .i64 (IE.var .i64 1) (IE.lit 8))) 0) (IE.bin BinOp.shl .u8 (IE.lit 1) (IE.bin BinOp.rem .i64 (IE.var .i64 1) (IE.lit 8)))) AL.nil)) AL.nil))) :: (BE.le (IE.fn .i64 22 (AL.lst (LE.set (LE.fn 3 (AL.lst (LE.rom 0) AL.nil)) (IE.add (IE.sub (IE.sub (IE.len (LE.fn 3 (AL.lst (LE.rom 0) AL.nil))) (IE.len (LE.rom 0))) (IE.lit 4)) (IE.bin BinOp.quo .i64 (IE.var .i64 1) (IE.lit 8))) (AL.int .u8 (IE.bin BinOp.xor .u8 (IE.cel .u8 (LE.fn 3 (AL.lst (LE.rom 0) AL.nil)) (IE.add (IE.sub (IE.sub (IE.len (LE.fn 3 (AL.lst (LE.rom 0) AL.nil))) (IE.len (LE.rom 0))) (IE.lit 4)) (IE.bin BinOp.quo .i64 (IE.var .i64 1) (IE.lit 8))) 0) (IE.bin BinOp.shl .u8 (IE.lit 1) (IE.bin BinOp.rem .i64 (IE.var .i64 1) (IE.lit 8)))) AL.nil)) AL.nil)) (IE.len (LE.fn 3 (AL.lst (LE.rom 0) AL.nil)))) :: (BE.not (BE.eq (IE.len (LE.fn 5 (AL.lst (LE.set (LE.fn 3 (AL.lst (LE.rom 0) AL.nil)) (IE.add (IE.sub (IE.sub (IE.len (LE.fn 3 (AL.lst (LE.rom 0) AL.nil))) (IE.len (LE.rom 0))) (IE.lit 4)) (IE.bin BinOp.quo .i64 (IE.var .i64 1) (IE.lit 8))) (AL.int .u8 (IE.bin BinOp.xor .u8 (IE.cel .u8 (LE.fn 3 (AL.lst (LE.rom 0) AL.nil)) (IE.add (IE.sub (IE.sub (IE.len (LE.fn 3 (AL.lst (LE.rom 0) AL.nil))) (IE.len (LE.rom 0))) (IE.lit 4)) (IE.bin BinOp.quo .i64 (IE.var .i64 1) (IE.lit 8))) 0) (IE.bin BinOp.shl .u8 (IE.lit 1) (IE.bin BinOp.rem .i64 (IE.var .i64 1) (IE.lit 8)))) AL.nil)) AL.nil))) (IE.lit 0))) :: pctua_3) (some [(G.b (BE.lit true) (BE.lit false))]))
def wtua_3 : VW := (VW.done ((BE.eq (IE.fn .i64 21 (AL.lst (LE.set (LE.fn 3 (AL.lst (LE.rom 0) AL.nil)) (IE.add (IE.sub (IE.sub (IE.len (LE.fn 3 (AL.lst (LE.rom 0) AL.nil))) (IE.len (LE.rom 0))) (IE.lit 4)) (IE.bin BinOp.quo .i64 (IE.var .i64 1) (IE.lit 8))) (AL.int .u8 (IE.bin BinOp.xor .u8 (IE.cel .u8 (LE.fn 3 (AL.lst (LE.rom 0) AL.nil)) (IE.add (IE.sub (IE.sub (IE.len (LE.fn 3 (AL.lst (LE.rom 0) AL.nil))) (IE.len (LE.rom 0))) (IE.lit 4)) (IE.bin BinOp.quo .i64 (IE.var .i64 1) (IE.lit 8))) 0) (IE.bin BinOp.shl .u8 (IE.lit 1) (IE.bin BinOp.rem .i64 (IE.var .i64 1) (IE.lit 8)))) AL.nil)) AL.nil)) (IE.lit 120)) :: pctua_4) (some []))
def wtua_4 : VW := (VW.done ((BE.not (BE.eq (IE.fn .i64 21 (AL.lst (LE.set (LE.fn 3 (AL.lst (LE.rom 0) AL.nil)) (IE.add (IE.sub (IE.sub (IE.len (LE.fn 3 (AL.lst (LE.rom 0) AL.nil))) (IE.len (LE.rom 0))) (IE.lit 4)) (IE.bin BinOp.quo .i64 (IE.var .i64 1) (IE.lit 8))) (AL.int .u8 (IE.bin BinOp.xor .u8 (IE.cel .u8 (LE.fn 3 (AL.lst (LE.rom 0) AL.nil)) (IE.add (IE.sub (IE.sub (IE.len (LE.fn 3 (AL.lst (LE.rom 0) AL.nil))) (IE.len (LE.rom 0))) (IE.lit 4)) (IE.bin BinOp.quo .i64 (IE.var .i64 1) (IE.lit 8))) 0) (IE.bin BinOp.shl .u8 (IE.lit 1) (IE.bin BinOp.rem .i64 (IE.var .i64 1) (IE.lit 8)))) AL.nil)) AL.nil)) (IE.lit 120))) :: pctua_4) (some [(G.b (BE.lit true) (BE.lit false))]))
def wtua_5 : VW := (VW.done ((BE.not (BE.le (IE.len (LE.rom 0)) (IE.lit 2000))) :: pctua_0) (some []))
def vwtua : List VW := [wtua_0, wtua_1, wtua_2, wtua_3, wtua_4, wtua_5]
end
theorem vctua_0 : VD TTtua (st0 cTuA) wtua_0 := by
  intro ρ kn hp
  exact all_nil
theorem vctua_1 : VD TTtua (st0 cTuA) wtua_1 := by
  intro ρ kn hp
  have hF : ρ.z.F = oct.Φ := kn.F
  simp only [h_nil, h_cons, d_le, d_eq, d_not, d_var, d_lit, d_cel, d_leq, d_fn, d_and, d_iff, IE.den, LE.den, AL.den, lenV, true_and, and_true, pctua_3, pctua_2, pctua_1, pctua_0, hF, pi2, pi3, pi4, pi5, pi6, pi7, pi20, pl1, pi21, pi22, pl2, cE, cN, cV, cO, cM, sum_in, List.map_cons, List.map_nil, AV.cell, four_qs] at hp
  obtain ⟨p1, p2, p3, p4, p5, p6, p7, p8, p9, p10, p11, p12, p13, p14⟩ := hp
  exfalso
  have hT : Typed byteK (ρ.z.rl 0) := kn.rom 0 _ _ rfl
  have e3 : (ρ.z.rl 0).take (0 : Int).toNat = [] := rfl
  try simp only [e3] at *
  try simp only [pl3t hT] at *
  have hs := seal_len (ρ.z.rl 0)
  have hn := num_len (clampK .u64 (((ρ.z.rl 0) : LV).length : Int))
  have h0 : ((([] : LV).length : Nat) : Int) = 0 := rfl
  generalize binI .quo .i64 (ρ.i .i64 1) 8 = q at *
  generalize binI .rem .i64 (ρ.i .i64 1) 8 = r at *
  try simp only [h0] at *
  have hb := b_z (L := sealL (ρ.z.rl 0)) (i := ((((sealL (ρ.z.rl 0)).length : Nat) : Int) - (((ρ.z.rl 0).length : Nat) : Int) - 4) + q) (by omega)
  try simp only [hb] at *
  have hR := bI_rng (sealL (ρ.z.rl 0)) (((((sealL (ρ.z.rl 0)).length : Nat) : Int) - (((ρ.z.rl 0).length : Nat) : Int) - 4) + q).toNat
  obtain ⟨t1, t2, t3⟩ := turn_b hR.1 hR.2 (by assumption) (by assumption)
  have k := turned (b := (ρ.z.rl 0)) (by omega) (by omega) (by omega) t2 t3 t1
  omega
theorem vctua_2 : VD TTtua (st0 cTuA) wtua_2 := by
  intro ρ kn hp
  have hF : ρ.z.F = oct.Φ := kn.F
  simp only [h_nil, h_cons, d_le, d_eq, d_not, d_var, d_lit, d_cel, d_leq, d_fn, d_and, d_iff, IE.den, LE.den, AL.den, lenV, true_and, and_true, pctua_3, pctua_2, pctua_1, pctua_0, hF, pi2, pi3, pi4, pi5, pi6, pi7, pi20, pl1, pi21, pi22, pl2, cE, cN, cV, cO, cM, sum_in, List.map_cons, List.map_nil, AV.cell, four_qs] at hp
  obtain ⟨p1, p2, p3, p4, p5, p6, p7, p8, p9, p10, p11, p12, p13, p14⟩ := hp
  exfalso
  have hT : Typed byteK (ρ.z.rl 0) := kn.rom 0 _ _ rfl
  have e3 : (ρ.z.rl 0).take (0 : Int).toNat = [] := rfl
  try simp only [e3] at *
  try simp only [pl3t hT] at *
  have hs := seal_len (ρ.z.rl 0)
  have hn := num_len (clampK .u64 (((ρ.z.rl 0) : LV).length : Int))
  have h0 : ((([] : LV).length : Nat) : Int) = 0 := rfl
  generalize binI .quo .i64 (ρ.i .i64 1) 8 = q at *
  generalize binI .rem .i64 (ρ.i .i64 1) 8 = r at *
  try simp only [h0] at *
  have hb := b_z (L := sealL (ρ.z.rl 0)) (i := ((((sealL (ρ.z.rl 0)).length : Nat) : Int) - (((ρ.z.rl 0).length : Nat) : Int) - 4) + q) (by omega)
  try simp only [hb] at *
  have hR := bI_rng (sealL (ρ.z.rl 0)) (((((sealL (ρ.z.rl 0)).length : Nat) : Int) - (((ρ.z.rl 0).length : Nat) : Int) - 4) + q).toNat
  obtain ⟨t1, t2, t3⟩ := turn_b hR.1 hR.2 (by assumption) (by assumption)
  have k := turned (b := (ρ.z.rl 0)) (by omega) (by omega) (by omega) t2 t3 t1
  omega
theorem vctua_3 : VD TTtua (st0 cTuA) wtua_3 := by
  intro ρ kn hp
  exact all_nil
theorem vctua_4 : VD TTtua (st0 cTuA) wtua_4 := by
  intro ρ kn hp
  have hF : ρ.z.F = oct.Φ := kn.F
  simp only [h_nil, h_cons, d_le, d_eq, d_not, d_var, d_lit, d_cel, d_leq, d_fn, d_and, d_iff, IE.den, LE.den, AL.den, lenV, true_and, and_true, pctua_4, pctua_2, pctua_1, pctua_0, hF, pi2, pi3, pi4, pi5, pi6, pi7, pi20, pl1, pi21, pi22, pl2, cE, cN, cV, cO, cM, sum_in, List.map_cons, List.map_nil, AV.cell, four_qs] at hp
  obtain ⟨p1, p2, p3, p4, p5, p6, p7, p8, p9, p10, p11, p12⟩ := hp
  exfalso
  have hT : Typed byteK (ρ.z.rl 0) := kn.rom 0 _ _ rfl
  have e3 : (ρ.z.rl 0).take (0 : Int).toNat = [] := rfl
  try simp only [e3] at *
  try simp only [pl3t hT] at *
  have hs := seal_len (ρ.z.rl 0)
  have hn := num_len (clampK .u64 (((ρ.z.rl 0) : LV).length : Int))
  have h0 : ((([] : LV).length : Nat) : Int) = 0 := rfl
  generalize binI .quo .i64 (ρ.i .i64 1) 8 = q at *
  generalize binI .rem .i64 (ρ.i .i64 1) 8 = r at *
  try simp only [h0] at *
  have hb := b_z (L := sealL (ρ.z.rl 0)) (i := ((((sealL (ρ.z.rl 0)).length : Nat) : Int) - (((ρ.z.rl 0).length : Nat) : Int) - 4) + q) (by omega)
  try simp only [hb] at *
  have hR := bI_rng (sealL (ρ.z.rl 0)) (((((sealL (ρ.z.rl 0)).length : Nat) : Int) - (((ρ.z.rl 0).length : Nat) : Int) - 4) + q).toNat
  obtain ⟨t1, t2, t3⟩ := turn_b hR.1 hR.2 (by assumption) (by assumption)
  have k := turned (b := (ρ.z.rl 0)) (by omega) (by omega) (by omega) t2 t3 t1
  omega
theorem vctua_5 : VD TTtua (st0 cTuA) wtua_5 := by
  intro ρ kn hp
  exact all_nil
theorem told_tua : Sx.Told oct.Φ cTuA := told_vw (cs := [cWorks, cRRead, cRSum, cOpenNo, cOpenZ, cOpenY, cSeal, cRSeal, cSealX, cRSealX, cSealNil, cOpenNil]) (all_cons told_works (all_cons told_rread (all_cons told_rsum (all_cons told_opno (all_cons told_opz (all_cons told_opy (all_cons told_seal (all_cons told_rseal (all_cons told_sealx (all_cons told_rsealx (all_cons told_sealnil (all_cons told_opnil (all_nil))))))))))))) 9000 vwtua (by kernel_rfl) (by kernel_rfl) (by kernel_rfl) (post_nil rfl) (by kernel_rfl) (by kernel_rfl) (all_cons vctua_0 (all_cons vctua_1 (all_cons vctua_2 (all_cons vctua_3 (all_cons vctua_4 (all_cons vctua_5 (all_nil)))))))
noncomputable section
abbrev TTtub : Tab := T oct.Φ cTuB.roms [cWorks, cRRead, cRSum, cOpenNo, cOpenZ, cOpenY, cSeal, cRSeal, cSealX, cRSealX, cSealNil, cOpenNil]
def pctub_0 : List BE := [(BE.lit true), (BE.le (IE.lit 1) (IE.len (LE.rom 0))), (BE.not (BE.le (IE.lit 0) (IE.var .i64 1)))]
def wtub_0 : VW := (VW.done ((BE.le (IE.add (IE.len (LE.rom 0)) (IE.lit 5)) (IE.len (LE.fn 3 (AL.lst (LE.rom 0) AL.nil)))) :: (BE.le (IE.len (LE.fn 3 (AL.lst (LE.rom 0) AL.nil))) (IE.add (IE.len (LE.rom 0)) (IE.lit 14))) :: (BE.le (IE.len (LE.rom 0)) (IE.lit 2000)) :: pctub_0) (some []))
def wtub_1 : VW := (VW.done ((BE.not (BE.le (IE.len (LE.rom 0)) (IE.lit 2000))) :: pctub_0) (some []))
def vwtub : List VW := [wtub_0, wtub_1]
end
theorem vctub_0 : VD TTtub (st0 cTuB) wtub_0 := by
  intro ρ kn hp
  exact all_nil
theorem vctub_1 : VD TTtub (st0 cTuB) wtub_1 := by
  intro ρ kn hp
  exact all_nil
theorem told_tub : Sx.Told oct.Φ cTuB := told_vw (cs := [cWorks, cRRead, cRSum, cOpenNo, cOpenZ, cOpenY, cSeal, cRSeal, cSealX, cRSealX, cSealNil, cOpenNil]) (all_cons told_works (all_cons told_rread (all_cons told_rsum (all_cons told_opno (all_cons told_opz (all_cons told_opy (all_cons told_seal (all_cons told_rseal (all_cons told_sealx (all_cons told_rsealx (all_cons told_sealnil (all_cons told_opnil (all_nil))))))))))))) 9000 vwtub (by kernel_rfl) (by kernel_rfl) (by kernel_rfl) (post_nil rfl) (by kernel_rfl) (by kernel_rfl) (all_cons vctub_0 (all_cons vctub_1 (all_nil)))
noncomputable section
abbrev TTtuc : Tab := T oct.Φ cTu0A.roms [cWorks, cRRead, cRSum, cOpenNo, cOpenZ, cOpenY, cSeal, cRSeal, cSealX, cRSealX, cSealNil, cOpenNil]
def pctuc_0 : List BE := [(BE.le (IE.add (IE.lit 0) (IE.lit 5)) (IE.len (LE.fn 3 (AL.lst (LE.take (LE.rom 0) (IE.lit 0)) AL.nil)))), (BE.le (IE.len (LE.fn 3 (AL.lst (LE.take (LE.rom 0) (IE.lit 0)) AL.nil))) (IE.add (IE.lit 0) (IE.lit 14))), (BE.lit true), (BE.le (IE.lit 0) (IE.var .i64 1)), (BE.le (IE.lit 0) (IE.bin BinOp.quo .i64 (IE.var .i64 1) (IE.lit 8))), (BE.le (IE.mul (IE.lit 8) (IE.bin BinOp.quo .i64 (IE.var .i64 1) (IE.lit 8))) (IE.var .i64 1)), (BE.le (IE.lit 0) (IE.bin BinOp.rem .i64 (IE.var .i64 1) (IE.lit 8))), (BE.le (IE.bin BinOp.rem .i64 (IE.var .i64 1) (IE.lit 8)) (IE.lit 7))]
def pctuc_1 : List BE := ((BE.not (BE.le (IE.mul (IE.lit 8) (IE.sub (IE.len (LE.fn 3 (AL.lst (LE.take (LE.rom 0) (IE.lit 0)) AL.nil))) (IE.sub (IE.sub (IE.len (LE.fn 3 (AL.lst (LE.take (LE.rom 0) (IE.lit 0)) AL.nil))) (IE.lit 0)) (IE.lit 4)))) (IE.var .i64 1))) :: pctuc_0)
def pctuc_2 : List BE := ((BE.eq (IE.fn .i64 21 (AL.lst (LE.set (LE.fn 3 (AL.lst (LE.take (LE.rom 0) (IE.lit 0)) AL.nil)) (IE.add (IE.sub (IE.sub (IE.len (LE.fn 3 (AL.lst (LE.take (LE.rom 0) (IE.lit 0)) AL.nil))) (IE.lit 0)) (IE.lit 4)) (IE.bin BinOp.quo .i64 (IE.var .i64 1) (IE.lit 8))) (AL.int .u8 (IE.bin BinOp.xor .u8 (IE.cel .u8 (LE.fn 3 (AL.lst (LE.take (LE.rom 0) (IE.lit 0)) AL.nil)) (IE.add (IE.sub (IE.sub (IE.len (LE.fn 3 (AL.lst (LE.take (LE.rom 0) (IE.lit 0)) AL.nil))) (IE.lit 0)) (IE.lit 4)) (IE.bin BinOp.quo .i64 (IE.var .i64 1) (IE.lit 8))) 0) (IE.bin BinOp.shl .u8 (IE.lit 1) (IE.bin BinOp.rem .i64 (IE.var .i64 1) (IE.lit 8)))) AL.nil)) AL.nil)) (IE.lit 0)) :: pctuc_1)
def pctuc_3 : List BE := ((BE.not (BE.eq (IE.fn .i64 21 (AL.lst (LE.set (LE.fn 3 (AL.lst (LE.take (LE.rom 0) (IE.lit 0)) AL.nil)) (IE.add (IE.sub (IE.sub (IE.len (LE.fn 3 (AL.lst (LE.take (LE.rom 0) (IE.lit 0)) AL.nil))) (IE.lit 0)) (IE.lit 4)) (IE.bin BinOp.quo .i64 (IE.var .i64 1) (IE.lit 8))) (AL.int .u8 (IE.bin BinOp.xor .u8 (IE.cel .u8 (LE.fn 3 (AL.lst (LE.take (LE.rom 0) (IE.lit 0)) AL.nil)) (IE.add (IE.sub (IE.sub (IE.len (LE.fn 3 (AL.lst (LE.take (LE.rom 0) (IE.lit 0)) AL.nil))) (IE.lit 0)) (IE.lit 4)) (IE.bin BinOp.quo .i64 (IE.var .i64 1) (IE.lit 8))) 0) (IE.bin BinOp.shl .u8 (IE.lit 1) (IE.bin BinOp.rem .i64 (IE.var .i64 1) (IE.lit 8)))) AL.nil)) AL.nil)) (IE.lit 0))) :: pctuc_1)
def wtuc_0 : VW := (VW.done ((BE.le (IE.mul (IE.lit 8) (IE.sub (IE.len (LE.fn 3 (AL.lst (LE.take (LE.rom 0) (IE.lit 0)) AL.nil))) (IE.sub (IE.sub (IE.len (LE.fn 3 (AL.lst (LE.take (LE.rom 0) (IE.lit 0)) AL.nil))) (IE.lit 0)) (IE.lit 4)))) (IE.var .i64 1)) :: pctuc_0) (some []))
def wtuc_1 : VW := (VW.done ((BE.le (IE.lit 5) (IE.fn .i64 22 (AL.lst (LE.set (LE.fn 3 (AL.lst (LE.take (LE.rom 0) (IE.lit 0)) AL.nil)) (IE.add (IE.sub (IE.sub (IE.len (LE.fn 3 (AL.lst (LE.take (LE.rom 0) (IE.lit 0)) AL.nil))) (IE.lit 0)) (IE.lit 4)) (IE.bin BinOp.quo .i64 (IE.var .i64 1) (IE.lit 8))) (AL.int .u8 (IE.bin BinOp.xor .u8 (IE.cel .u8 (LE.fn 3 (AL.lst (LE.take (LE.rom 0) (IE.lit 0)) AL.nil)) (IE.add (IE.sub (IE.sub (IE.len (LE.fn 3 (AL.lst (LE.take (LE.rom 0) (IE.lit 0)) AL.nil))) (IE.lit 0)) (IE.lit 4)) (IE.bin BinOp.quo .i64 (IE.var .i64 1) (IE.lit 8))) 0) (IE.bin BinOp.shl .u8 (IE.lit 1) (IE.bin BinOp.rem .i64 (IE.var .i64 1) (IE.lit 8)))) AL.nil)) AL.nil))) :: (BE.le (IE.fn .i64 22 (AL.lst (LE.set (LE.fn 3 (AL.lst (LE.take (LE.rom 0) (IE.lit 0)) AL.nil)) (IE.add (IE.sub (IE.sub (IE.len (LE.fn 3 (AL.lst (LE.take (LE.rom 0) (IE.lit 0)) AL.nil))) (IE.lit 0)) (IE.lit 4)) (IE.bin BinOp.quo .i64 (IE.var .i64 1) (IE.lit 8))) (AL.int .u8 (IE.bin BinOp.xor .u8 (IE.cel .u8 (LE.fn 3 (AL.lst (LE.take (LE.rom 0) (IE.lit 0)) AL.nil)) (IE.add (IE.sub (IE.sub (IE.len (LE.fn 3 (AL.lst (LE.take (LE.rom 0) (IE.lit 0)) AL.nil))) (IE.lit 0)) (IE.lit 4)) (IE.bin BinOp.quo .i64 (IE.var .i64 1) (IE.lit 8))) 0) (IE.bin BinOp.shl .u8 (IE.lit 1) (IE.bin BinOp.rem .i64 (IE.var .i64 1) (IE.lit 8)))) AL.nil)) AL.nil)) (IE.len (LE.fn 3 (AL.lst (LE.take (LE.rom 0) (IE.lit 0)) AL.nil)))) :: (BE.eq (IE.len (LE.fn 5 (AL.lst (LE.set (LE.fn 3 (AL.lst (LE.take (LE.rom 0) (IE.lit 0)) AL.nil)) (IE.add (IE.sub (IE.sub (IE.len (LE.fn 3 (AL.lst (LE.take (LE.rom 0) (IE.lit 0)) AL.nil))) (IE.lit 0)) (IE.lit 4)) (IE.bin BinOp.quo .i64 (IE.var .i64 1) (IE.lit 8))) (AL.int .u8 (IE.bin BinOp.xor .u8 (IE.cel .u8 (LE.fn 3 (AL.lst (LE.take (LE.rom 0) (IE.lit 0)) AL.nil)) (IE.add (IE.sub (IE.sub (IE.len (LE.fn 3 (AL.lst (LE.take (LE.rom 0) (IE.lit 0)) AL.nil))) (IE.lit 0)) (IE.lit 4)) (IE.bin BinOp.quo .i64 (IE.var .i64 1) (IE.lit 8))) 0) (IE.bin BinOp.shl .u8 (IE.lit 1) (IE.bin BinOp.rem .i64 (IE.var .i64 1) (IE.lit 8)))) AL.nil)) AL.nil))) (IE.lit 0)) :: pctuc_2) (some [(G.b (BE.lit true) (BE.lit false))]))
def wtuc_2 : VW := (VW.done ((BE.le (IE.lit 5) (IE.fn .i64 22 (AL.lst (LE.set (LE.fn 3 (AL.lst (LE.take (LE.rom 0) (IE.lit 0)) AL.nil)) (IE.add (IE.sub (IE.sub (IE.len (LE.fn 3 (AL.lst (LE.take (LE.rom 0) (IE.lit 0)) AL.nil))) (IE.lit 0)) (IE.lit 4)) (IE.bin BinOp.quo .i64 (IE.var .i64 1) (IE.lit 8))) (AL.int .u8 (IE.bin BinOp.xor .u8 (IE.cel .u8 (LE.fn 3 (AL.lst (LE.take (LE.rom 0) (IE.lit 0)) AL.nil)) (IE.add (IE.sub (IE.sub (IE.len (LE.fn 3 (AL.lst (LE.take (LE.rom 0) (IE.lit 0)) AL.nil))) (IE.lit 0)) (IE.lit 4)) (IE.bin BinOp.quo .i64 (IE.var .i64 1) (IE.lit 8))) 0) (IE.bin BinOp.shl .u8 (IE.lit 1) (IE.bin BinOp.rem .i64 (IE.var .i64 1) (IE.lit 8)))) AL.nil)) AL.nil))) :: (BE.le (IE.fn .i64 22 (AL.lst (LE.set (LE.fn 3 (AL.lst (LE.take (LE.rom 0) (IE.lit 0)) AL.nil)) (IE.add (IE.sub (IE.sub (IE.len (LE.fn 3 (AL.lst (LE.take (LE.rom 0) (IE.lit 0)) AL.nil))) (IE.lit 0)) (IE.lit 4)) (IE.bin BinOp.quo .i64 (IE.var .i64 1) (IE.lit 8))) (AL.int .u8 (IE.bin BinOp.xor .u8 (IE.cel .u8 (LE.fn 3 (AL.lst (LE.take (LE.rom 0) (IE.lit 0)) AL.nil)) (IE.add (IE.sub (IE.sub (IE.len (LE.fn 3 (AL.lst (LE.take (LE.rom 0) (IE.lit 0)) AL.nil))) (IE.lit 0)) (IE.lit 4)) (IE.bin BinOp.quo .i64 (IE.var .i64 1) (IE.lit 8))) 0) (IE.bin BinOp.shl .u8 (IE.lit 1) (IE.bin BinOp.rem .i64 (IE.var .i64 1) (IE.lit 8)))) AL.nil)) AL.nil)) (IE.len (LE.fn 3 (AL.lst (LE.take (LE.rom 0) (IE.lit 0)) AL.nil)))) :: (BE.not (BE.eq (IE.len (LE.fn 5 (AL.lst (LE.set (LE.fn 3 (AL.lst (LE.take (LE.rom 0) (IE.lit 0)) AL.nil)) (IE.add (IE.sub (IE.sub (IE.len (LE.fn 3 (AL.lst (LE.take (LE.rom 0) (IE.lit 0)) AL.nil))) (IE.lit 0)) (IE.lit 4)) (IE.bin BinOp.quo .i64 (IE.var .i64 1) (IE.lit 8))) (AL.int .u8 (IE.bin BinOp.xor .u8 (IE.cel .u8 (LE.fn 3 (AL.lst (LE.take (LE.rom 0) (IE.lit 0)) AL.nil)) (IE.add (IE.sub (IE.sub (IE.len (LE.fn 3 (AL.lst (LE.take (LE.rom 0) (IE.lit 0)) AL.nil))) (IE.lit 0)) (IE.lit 4)) (IE.bin BinOp.quo .i64 (IE.var .i64 1) (IE.lit 8))) 0) (IE.bin BinOp.shl .u8 (IE.lit 1) (IE.bin BinOp.rem .i64 (IE.var .i64 1) (IE.lit 8)))) AL.nil)) AL.nil))) (IE.lit 0))) :: pctuc_2) (some [(G.b (BE.lit true) (BE.lit false))]))
def wtuc_3 : VW := (VW.done ((BE.eq (IE.fn .i64 21 (AL.lst (LE.set (LE.fn 3 (AL.lst (LE.take (LE.rom 0) (IE.lit 0)) AL.nil)) (IE.add (IE.sub (IE.sub (IE.len (LE.fn 3 (AL.lst (LE.take (LE.rom 0) (IE.lit 0)) AL.nil))) (IE.lit 0)) (IE.lit 4)) (IE.bin BinOp.quo .i64 (IE.var .i64 1) (IE.lit 8))) (AL.int .u8 (IE.bin BinOp.xor .u8 (IE.cel .u8 (LE.fn 3 (AL.lst (LE.take (LE.rom 0) (IE.lit 0)) AL.nil)) (IE.add (IE.sub (IE.sub (IE.len (LE.fn 3 (AL.lst (LE.take (LE.rom 0) (IE.lit 0)) AL.nil))) (IE.lit 0)) (IE.lit 4)) (IE.bin BinOp.quo .i64 (IE.var .i64 1) (IE.lit 8))) 0) (IE.bin BinOp.shl .u8 (IE.lit 1) (IE.bin BinOp.rem .i64 (IE.var .i64 1) (IE.lit 8)))) AL.nil)) AL.nil)) (IE.lit 120)) :: pctuc_3) (some []))
def wtuc_4 : VW := (VW.done ((BE.not (BE.eq (IE.fn .i64 21 (AL.lst (LE.set (LE.fn 3 (AL.lst (LE.take (LE.rom 0) (IE.lit 0)) AL.nil)) (IE.add (IE.sub (IE.sub (IE.len (LE.fn 3 (AL.lst (LE.take (LE.rom 0) (IE.lit 0)) AL.nil))) (IE.lit 0)) (IE.lit 4)) (IE.bin BinOp.quo .i64 (IE.var .i64 1) (IE.lit 8))) (AL.int .u8 (IE.bin BinOp.xor .u8 (IE.cel .u8 (LE.fn 3 (AL.lst (LE.take (LE.rom 0) (IE.lit 0)) AL.nil)) (IE.add (IE.sub (IE.sub (IE.len (LE.fn 3 (AL.lst (LE.take (LE.rom 0) (IE.lit 0)) AL.nil))) (IE.lit 0)) (IE.lit 4)) (IE.bin BinOp.quo .i64 (IE.var .i64 1) (IE.lit 8))) 0) (IE.bin BinOp.shl .u8 (IE.lit 1) (IE.bin BinOp.rem .i64 (IE.var .i64 1) (IE.lit 8)))) AL.nil)) AL.nil)) (IE.lit 120))) :: pctuc_3) (some [(G.b (BE.lit true) (BE.lit false))]))
def vwtuc : List VW := [wtuc_0, wtuc_1, wtuc_2, wtuc_3, wtuc_4]
end
theorem vctuc_0 : VD TTtuc (st0 cTu0A) wtuc_0 := by
  intro ρ kn hp
  exact all_nil
theorem vctuc_1 : VD TTtuc (st0 cTu0A) wtuc_1 := by
  intro ρ kn hp
  have hF : ρ.z.F = oct.Φ := kn.F
  simp only [h_nil, h_cons, d_le, d_eq, d_not, d_var, d_lit, d_cel, d_leq, d_fn, d_and, d_iff, IE.den, LE.den, AL.den, lenV, true_and, and_true, pctuc_2, pctuc_1, pctuc_0, hF, pi2, pi3, pi4, pi5, pi6, pi7, pi20, pl1, pi21, pi22, pl2, cE, cN, cV, cO, cM, sum_in, List.map_cons, List.map_nil, AV.cell, four_qs] at hp
  obtain ⟨p1, p2, p3, p4, p5, p6, p7, p8, p9, p10, p11, p12⟩ := hp
  exfalso
  have hT : Typed byteK (ρ.z.rl 0) := kn.rom 0 _ _ rfl
  have e3 : (ρ.z.rl 0).take (0 : Int).toNat = [] := rfl
  try simp only [e3] at *
  try simp only [pl3t typed_nil] at *
  have hs := seal_len []
  have hn := num_len (clampK .u64 (([] : LV).length : Int))
  have h0 : ((([] : LV).length : Nat) : Int) = 0 := rfl
  generalize binI .quo .i64 (ρ.i .i64 1) 8 = q at *
  generalize binI .rem .i64 (ρ.i .i64 1) 8 = r at *
  try simp only [h0] at *
  have hb := b_z (L := sealL []) (i := ((((sealL []).length : Nat) : Int) - (0 : Int) - 4) + q) (by omega)
  try simp only [hb] at *
  have hR := bI_rng (sealL []) (((((sealL []).length : Nat) : Int) - (0 : Int) - 4) + q).toNat
  obtain ⟨t1, t2, t3⟩ := turn_b hR.1 hR.2 (by assumption) (by assumption)
  have k := turned0 (by omega) (by omega) t2 t3 t1
  omega
theorem vctuc_2 : VD TTtuc (st0 cTu0A) wtuc_2 := by
  intro ρ kn hp
  have hF : ρ.z.F = oct.Φ := kn.F
  simp only [h_nil, h_cons, d_le, d_eq, d_not, d_var, d_lit, d_cel, d_leq, d_fn, d_and, d_iff, IE.den, LE.den, AL.den, lenV, true_and, and_true, pctuc_2, pctuc_1, pctuc_0, hF, pi2, pi3, pi4, pi5, pi6, pi7, pi20, pl1, pi21, pi22, pl2, cE, cN, cV, cO, cM, sum_in, List.map_cons, List.map_nil, AV.cell, four_qs] at hp
  obtain ⟨p1, p2, p3, p4, p5, p6, p7, p8, p9, p10, p11, p12⟩ := hp
  exfalso
  have hT : Typed byteK (ρ.z.rl 0) := kn.rom 0 _ _ rfl
  have e3 : (ρ.z.rl 0).take (0 : Int).toNat = [] := rfl
  try simp only [e3] at *
  try simp only [pl3t typed_nil] at *
  have hs := seal_len []
  have hn := num_len (clampK .u64 (([] : LV).length : Int))
  have h0 : ((([] : LV).length : Nat) : Int) = 0 := rfl
  generalize binI .quo .i64 (ρ.i .i64 1) 8 = q at *
  generalize binI .rem .i64 (ρ.i .i64 1) 8 = r at *
  try simp only [h0] at *
  have hb := b_z (L := sealL []) (i := ((((sealL []).length : Nat) : Int) - (0 : Int) - 4) + q) (by omega)
  try simp only [hb] at *
  have hR := bI_rng (sealL []) (((((sealL []).length : Nat) : Int) - (0 : Int) - 4) + q).toNat
  obtain ⟨t1, t2, t3⟩ := turn_b hR.1 hR.2 (by assumption) (by assumption)
  have k := turned0 (by omega) (by omega) t2 t3 t1
  omega
theorem vctuc_3 : VD TTtuc (st0 cTu0A) wtuc_3 := by
  intro ρ kn hp
  exact all_nil
theorem vctuc_4 : VD TTtuc (st0 cTu0A) wtuc_4 := by
  intro ρ kn hp
  have hF : ρ.z.F = oct.Φ := kn.F
  simp only [h_nil, h_cons, d_le, d_eq, d_not, d_var, d_lit, d_cel, d_leq, d_fn, d_and, d_iff, IE.den, LE.den, AL.den, lenV, true_and, and_true, pctuc_3, pctuc_1, pctuc_0, hF, pi2, pi3, pi4, pi5, pi6, pi7, pi20, pl1, pi21, pi22, pl2, cE, cN, cV, cO, cM, sum_in, List.map_cons, List.map_nil, AV.cell, four_qs] at hp
  obtain ⟨p1, p2, p3, p4, p5, p6, p7, p8, p9, p10⟩ := hp
  exfalso
  have hT : Typed byteK (ρ.z.rl 0) := kn.rom 0 _ _ rfl
  have e3 : (ρ.z.rl 0).take (0 : Int).toNat = [] := rfl
  try simp only [e3] at *
  try simp only [pl3t typed_nil] at *
  have hs := seal_len []
  have hn := num_len (clampK .u64 (([] : LV).length : Int))
  have h0 : ((([] : LV).length : Nat) : Int) = 0 := rfl
  generalize binI .quo .i64 (ρ.i .i64 1) 8 = q at *
  generalize binI .rem .i64 (ρ.i .i64 1) 8 = r at *
  try simp only [h0] at *
  have hb := b_z (L := sealL []) (i := ((((sealL []).length : Nat) : Int) - (0 : Int) - 4) + q) (by omega)
  try simp only [hb] at *
  have hR := bI_rng (sealL []) (((((sealL []).length : Nat) : Int) - (0 : Int) - 4) + q).toNat
  obtain ⟨t1, t2, t3⟩ := turn_b hR.1 hR.2 (by assumption) (by assumption)
  have k := turned0 (by omega) (by omega) t2 t3 t1
  omega
theorem told_tuc : Sx.Told oct.Φ cTu0A := told_vw (cs := [cWorks, cRRead, cRSum, cOpenNo, cOpenZ, cOpenY, cSeal, cRSeal, cSealX, cRSealX, cSealNil, cOpenNil]) (all_cons told_works (all_cons told_rread (all_cons told_rsum (all_cons told_opno (all_cons told_opz (all_cons told_opy (all_cons told_seal (all_cons told_rseal (all_cons told_sealx (all_cons told_rsealx (all_cons told_sealnil (all_cons told_opnil (all_nil))))))))))))) 9000 vwtuc (by kernel_rfl) (by kernel_rfl) (by kernel_rfl) (post_nil rfl) (by kernel_rfl) (by kernel_rfl) (all_cons vctuc_0 (all_cons vctuc_1 (all_cons vctuc_2 (all_cons vctuc_3 (all_cons vctuc_4 (all_nil))))))
noncomputable section
abbrev TTtud : Tab := T oct.Φ cTu0B.roms [cWorks, cRRead, cRSum, cOpenNo, cOpenZ, cOpenY, cSeal, cRSeal, cSealX, cRSealX, cSealNil, cOpenNil]
def wtud_0 : VW := (VW.done [(BE.le (IE.add (IE.lit 0) (IE.lit 5)) (IE.len (LE.fn 3 (AL.lst (LE.take (LE.rom 0) (IE.lit 0)) AL.nil)))), (BE.le (IE.len (LE.fn 3 (AL.lst (LE.take (LE.rom 0) (IE.lit 0)) AL.nil))) (IE.add (IE.lit 0) (IE.lit 14))), (BE.lit true), (BE.not (BE.le (IE.lit 0) (IE.var .i64 1)))] (some []))
def vwtud : List VW := [wtud_0]
end
theorem vctud_0 : VD TTtud (st0 cTu0B) wtud_0 := by
  intro ρ kn hp
  exact all_nil
theorem told_tud : Sx.Told oct.Φ cTu0B := told_vw (cs := [cWorks, cRRead, cRSum, cOpenNo, cOpenZ, cOpenY, cSeal, cRSeal, cSealX, cRSealX, cSealNil, cOpenNil]) (all_cons told_works (all_cons told_rread (all_cons told_rsum (all_cons told_opno (all_cons told_opz (all_cons told_opy (all_cons told_seal (all_cons told_rseal (all_cons told_sealx (all_cons told_rsealx (all_cons told_sealnil (all_cons told_opnil (all_nil))))))))))))) 9000 vwtud (by kernel_rfl) (by kernel_rfl) (by kernel_rfl) (post_nil rfl) (by kernel_rfl) (by kernel_rfl) (all_cons vctud_0 (all_nil))
theorem told_tu1 : Sx.Told oct.Φ cTu1 := told_cases told_tua told_tub rfl rfl rfl rfl (fun ρ g h => by
  have h1 : (BE.le (.lit 1) (ln 0)).den ρ = true := h.head
  rcases bit_cases ρ g with q | q
  · exact .inl (q.cons h1)
  · exact .inr (q.cons h1))
theorem told_tu0 : Sx.Told oct.Φ cTu0 := told_cases told_tuc told_tud rfl rfl rfl rfl (fun ρ g _ => bit_cases ρ g)
end Go.Proofs.Ythbnjmmkjpoahaa.oct
