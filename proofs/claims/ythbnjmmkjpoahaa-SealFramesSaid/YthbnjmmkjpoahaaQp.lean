/- Layer seal: frames that are opened. No condition. -/
import Derived.Test.YthbnjmmkjpoahaaQk
set_option linter.unusedVariables false
set_option linter.unusedSimpArgs false
set_option linter.deprecated false
namespace Go.Proofs.Ythbnjmmkjpoahaa.oct
open Go Go.Proofs.Ythbnjmmkjpoahaa.Sx
noncomputable section
abbrev TTfr : Tab := T oct.Φ cFr.roms [cWorks, cRRead, cRSum, cOpenNo, cOpenZ, cOpenY, cSeal, cRSeal, cSealX, cRSealX, cSealNil, cOpenNil]
def pcfr_0 : List BE := [(BE.lit true), (BE.le (IE.lit 1) (IE.len (LE.rom 0))), (BE.le (IE.lit 1) (IE.len (LE.rom 1)))]
def pcfr_1 : List BE := ((BE.le (IE.len (LE.rom 0)) (IE.lit 2000)) :: pcfr_0)
def pcfr_2 : List BE := ((BE.le (IE.add (IE.len (LE.rom 0)) (IE.lit 5)) (IE.len (LE.fn 3 (AL.lst (LE.rom 0) AL.nil)))) :: (BE.le (IE.len (LE.fn 3 (AL.lst (LE.rom 0) AL.nil))) (IE.add (IE.len (LE.rom 0)) (IE.lit 14))) :: (BE.le (IE.add (IE.len (LE.rom 0)) (IE.lit 5)) (IE.len (LE.fn 3 (AL.lst (LE.rom 0) AL.nil)))) :: (BE.le (IE.len (LE.fn 3 (AL.lst (LE.rom 0) AL.nil))) (IE.add (IE.len (LE.rom 0)) (IE.lit 14))) :: (BE.le (IE.len (LE.rom 1)) (IE.lit 500)) :: pcfr_1)
def pcfr_3 : List BE := ((BE.eq (IE.fn .i64 21 (AL.lst (LE.cat (LE.fn 3 (AL.lst (LE.rom 0) AL.nil)) (LE.rom 1)) AL.nil)) (IE.lit 0)) :: pcfr_2)
def pcfr_4 : List BE := ((BE.le (IE.lit 5) (IE.fn .i64 22 (AL.lst (LE.cat (LE.fn 3 (AL.lst (LE.rom 0) AL.nil)) (LE.rom 1)) AL.nil))) :: (BE.le (IE.fn .i64 22 (AL.lst (LE.cat (LE.fn 3 (AL.lst (LE.rom 0) AL.nil)) (LE.rom 1)) AL.nil)) (IE.add (IE.len (LE.fn 3 (AL.lst (LE.rom 0) AL.nil))) (IE.len (LE.rom 1)))) :: (BE.not (BE.eq (IE.len (LE.fn 5 (AL.lst (LE.cat (LE.fn 3 (AL.lst (LE.rom 0) AL.nil)) (LE.rom 1)) AL.nil))) (IE.lit 0))) :: pcfr_3)
def pcfr_5 : List BE := ((BE.leq (LE.fn 5 (AL.lst (LE.cat (LE.fn 3 (AL.lst (LE.rom 0) AL.nil)) (LE.rom 1)) AL.nil)) (LE.rom 0)) :: pcfr_4)
def wfr_0 : VW := (VW.done ((BE.le (IE.lit 5) (IE.fn .i64 22 (AL.lst (LE.cat (LE.fn 3 (AL.lst (LE.rom 0) AL.nil)) (LE.rom 1)) AL.nil))) :: (BE.le (IE.fn .i64 22 (AL.lst (LE.cat (LE.fn 3 (AL.lst (LE.rom 0) AL.nil)) (LE.rom 1)) AL.nil)) (IE.add (IE.len (LE.fn 3 (AL.lst (LE.rom 0) AL.nil))) (IE.len (LE.rom 1)))) :: (BE.eq (IE.len (LE.fn 5 (AL.lst (LE.cat (LE.fn 3 (AL.lst (LE.rom 0) AL.nil)) (LE.rom 1)) AL.nil))) (IE.lit 0)) :: pcfr_3) (some [(G.b (BE.lit true) (BE.lit false))]))
def wfr_1 : VW := (VW.done ((BE.eq (IE.fn .i64 22 (AL.lst (LE.cat (LE.fn 3 (AL.lst (LE.rom 0) AL.nil)) (LE.rom 1)) AL.nil)) (IE.len (LE.fn 3 (AL.lst (LE.rom 0) AL.nil)))) :: pcfr_5) (some []))
def wfr_2 : VW := (VW.done ((BE.not (BE.eq (IE.fn .i64 22 (AL.lst (LE.cat (LE.fn 3 (AL.lst (LE.rom 0) AL.nil)) (LE.rom 1)) AL.nil)) (IE.len (LE.fn 3 (AL.lst (LE.rom 0) AL.nil))))) :: pcfr_5) (some [(G.b (BE.lit true) (BE.lit false))]))
def wfr_3 : VW := (VW.done ((BE.not (BE.leq (LE.fn 5 (AL.lst (LE.cat (LE.fn 3 (AL.lst (LE.rom 0) AL.nil)) (LE.rom 1)) AL.nil)) (LE.rom 0))) :: pcfr_4) (some [(G.b (BE.lit true) (BE.lit false))]))
def wfr_4 : VW := (VW.done ((BE.not (BE.eq (IE.fn .i64 21 (AL.lst (LE.cat (LE.fn 3 (AL.lst (LE.rom 0) AL.nil)) (LE.rom 1)) AL.nil)) (IE.lit 0))) :: pcfr_2) (some [(G.b (BE.lit true) (BE.lit false))]))
def wfr_5 : VW := (VW.done ((BE.not (BE.le (IE.len (LE.rom 1)) (IE.lit 500))) :: pcfr_1) (some []))
def wfr_6 : VW := (VW.done ((BE.not (BE.le (IE.len (LE.rom 0)) (IE.lit 2000))) :: pcfr_0) (some []))
def vwfr : List VW := [wfr_0, wfr_1, wfr_2, wfr_3, wfr_4, wfr_5, wfr_6]
end
theorem vcfr_0 : VD TTfr (st0 cFr) wfr_0 := by
  intro ρ kn hp
  have hF : ρ.z.F = oct.Φ := kn.F
  simp only [h_nil, h_cons, d_le, d_eq, d_not, d_var, d_lit, d_cel, d_leq, d_fn, d_and, d_iff, IE.den, LE.den, AL.den, lenV, true_and, and_true, pcfr_3, pcfr_2, pcfr_1, pcfr_0, hF, pi2, pi3, pi4, pi5, pi6, pi7, pi20, pl1, pi21, pi22, pl2, cE, cN, cV, cO, cM, sum_in, List.map_cons, List.map_nil, AV.cell, four_qs] at hp
  obtain ⟨p1, p2, p3, p4, p5, p6, p7, p8, p9, p10, p11, p12⟩ := hp
  exfalso
  have hT : Typed byteK (ρ.z.rl 0) := kn.rom 0 _ _ rfl
  have hT1 : Typed byteK (ρ.z.rl 1) := kn.rom 1 _ _ rfl
  have e3 : (ρ.z.rl 0).take (0 : Int).toNat = [] := rfl
  have e4 : (ρ.z.rl 1).take (0 : Int).toNat = [] := rfl
  have e5 : ∀ x : LV, (x ++ []) ++ List.drop ((x.length : Int)).toNat x = x ++ [] := fun x => by simp
  try simp only [e3] at *
  try simp only [e4] at *
  try simp only [pl3t hT] at *
  try simp only [e5] at *
  try simp only [pl5t (app_typed (seal_typed hT) hT1)] at *
  have hq : (((ρ.z.rl 0) : LV).length : Int) ≤ 65536 := by first | omega | decide
  obtain ⟨k1, k2, k3⟩ := open_back (b := (ρ.z.rl 0)) hq (ρ.z.rl 1)
  have k4 := congrArg List.length k3
  first
    | with_reducible exact absurd k3 p1
    | with_reducible exact absurd k2 p1
    | with_reducible exact absurd k1 p1
    | omega
    | with_reducible contradiction
    | with_reducible exact absurd rfl (by assumption)
    | (simp only [List.length_nil] at *; omega)
theorem vcfr_1 : VD TTfr (st0 cFr) wfr_1 := by
  intro ρ kn hp
  exact all_nil
theorem vcfr_2 : VD TTfr (st0 cFr) wfr_2 := by
  intro ρ kn hp
  have hF : ρ.z.F = oct.Φ := kn.F
  simp only [h_nil, h_cons, d_le, d_eq, d_not, d_var, d_lit, d_cel, d_leq, d_fn, d_and, d_iff, IE.den, LE.den, AL.den, lenV, true_and, and_true, pcfr_5, pcfr_4, pcfr_3, pcfr_2, pcfr_1, pcfr_0, hF, pi2, pi3, pi4, pi5, pi6, pi7, pi20, pl1, pi21, pi22, pl2, cE, cN, cV, cO, cM, sum_in, List.map_cons, List.map_nil, AV.cell, four_qs] at hp
  obtain ⟨p1, p2, p3, p4, p5, p6, p7, p8, p9, p10, p11, p12, p13, p14⟩ := hp
  exfalso
  have hT : Typed byteK (ρ.z.rl 0) := kn.rom 0 _ _ rfl
  have hT1 : Typed byteK (ρ.z.rl 1) := kn.rom 1 _ _ rfl
  have e3 : (ρ.z.rl 0).take (0 : Int).toNat = [] := rfl
  have e4 : (ρ.z.rl 1).take (0 : Int).toNat = [] := rfl
  have e5 : ∀ x : LV, (x ++ []) ++ List.drop ((x.length : Int)).toNat x = x ++ [] := fun x => by simp
  try simp only [e3] at *
  try simp only [e4] at *
  try simp only [pl3t hT] at *
  try simp only [e5] at *
  try simp only [pl5t (app_typed (seal_typed hT) hT1)] at *
  have hq : (((ρ.z.rl 0) : LV).length : Int) ≤ 65536 := by first | omega | decide
  obtain ⟨k1, k2, k3⟩ := open_back (b := (ρ.z.rl 0)) hq (ρ.z.rl 1)
  have k4 := congrArg List.length k3
  first
    | with_reducible exact absurd k3 p1
    | with_reducible exact absurd k2 p1
    | with_reducible exact absurd k1 p1
    | omega
    | with_reducible contradiction
    | with_reducible exact absurd rfl (by assumption)
    | (simp only [List.length_nil] at *; omega)
theorem vcfr_3 : VD TTfr (st0 cFr) wfr_3 := by
  intro ρ kn hp
  have hF : ρ.z.F = oct.Φ := kn.F
  simp only [h_nil, h_cons, d_le, d_eq, d_not, d_var, d_lit, d_cel, d_leq, d_fn, d_and, d_iff, IE.den, LE.den, AL.den, lenV, true_and, and_true, pcfr_4, pcfr_3, pcfr_2, pcfr_1, pcfr_0, hF, pi2, pi3, pi4, pi5, pi6, pi7, pi20, pl1, pi21, pi22, pl2, cE, cN, cV, cO, cM, sum_in, List.map_cons, List.map_nil, AV.cell, four_qs] at hp
  obtain ⟨p1, p2, p3, p4, p5, p6, p7, p8, p9, p10, p11, p12, p13⟩ := hp
  exfalso
  have hT : Typed byteK (ρ.z.rl 0) := kn.rom 0 _ _ rfl
  have hT1 : Typed byteK (ρ.z.rl 1) := kn.rom 1 _ _ rfl
  have e3 : (ρ.z.rl 0).take (0 : Int).toNat = [] := rfl
  have e4 : (ρ.z.rl 1).take (0 : Int).toNat = [] := rfl
  have e5 : ∀ x : LV, (x ++ []) ++ List.drop ((x.length : Int)).toNat x = x ++ [] := fun x => by simp
  try simp only [e3] at *
  try simp only [e4] at *
  try simp only [pl3t hT] at *
  try simp only [e5] at *
  try simp only [pl5t (app_typed (seal_typed hT) hT1)] at *
  have hq : (((ρ.z.rl 0) : LV).length : Int) ≤ 65536 := by first | omega | decide
  obtain ⟨k1, k2, k3⟩ := open_back (b := (ρ.z.rl 0)) hq (ρ.z.rl 1)
  have k4 := congrArg List.length k3
  first
    | with_reducible exact absurd k3 p1
    | with_reducible exact absurd k2 p1
    | with_reducible exact absurd k1 p1
    | omega
    | with_reducible contradiction
    | with_reducible exact absurd rfl (by assumption)
    | (simp only [List.length_nil] at *; omega)
theorem vcfr_4 : VD TTfr (st0 cFr) wfr_4 := by
  intro ρ kn hp
  have hF : ρ.z.F = oct.Φ := kn.F
  simp only [h_nil, h_cons, d_le, d_eq, d_not, d_var, d_lit, d_cel, d_leq, d_fn, d_and, d_iff, IE.den, LE.den, AL.den, lenV, true_and, and_true, pcfr_2, pcfr_1, pcfr_0, hF, pi2, pi3, pi4, pi5, pi6, pi7, pi20, pl1, pi21, pi22, pl2, cE, cN, cV, cO, cM, sum_in, List.map_cons, List.map_nil, AV.cell, four_qs] at hp
  obtain ⟨p1, p2, p3, p4, p5, p6, p7, p8, p9⟩ := hp
  exfalso
  have hT : Typed byteK (ρ.z.rl 0) := kn.rom 0 _ _ rfl
  have hT1 : Typed byteK (ρ.z.rl 1) := kn.rom 1 _ _ rfl
  have e3 : (ρ.z.rl 0).take (0 : Int).toNat = [] := rfl
  have e4 : (ρ.z.rl 1).take (0 : Int).toNat = [] := rfl
  have e5 : ∀ x : LV, (x ++ []) ++ List.drop ((x.length : Int)).toNat x = x ++ [] := fun x => by simp
  try simp only [e3] at *
  try simp only [e4] at *
  try simp only [pl3t hT] at *
  try simp only [e5] at *
  try simp only [pl5t (app_typed (seal_typed hT) hT1)] at *
  have hq : (((ρ.z.rl 0) : LV).length : Int) ≤ 65536 := by first | omega | decide
  obtain ⟨k1, k2, k3⟩ := open_back (b := (ρ.z.rl 0)) hq (ρ.z.rl 1)
  have k4 := congrArg List.length k3
  first
    | with_reducible exact absurd k3 p1
    | with_reducible exact absurd k2 p1
    | with_reducible exact absurd k1 p1
    | omega
    | with_reducible contradiction
    | with_reducible exact absurd rfl (by assumption)
    | (simp only [List.length_nil] at *; omega)
theorem vcfr_5 : VD TTfr (st0 cFr) wfr_5 := by
  intro ρ kn hp
  exact all_nil
theorem vcfr_6 : VD TTfr (st0 cFr) wfr_6 := by
  intro ρ kn hp
  exact all_nil
theorem told_fr : Sx.Told oct.Φ cFr := told_vw (cs := [cWorks, cRRead, cRSum, cOpenNo, cOpenZ, cOpenY, cSeal, cRSeal, cSealX, cRSealX, cSealNil, cOpenNil]) (all_cons told_works (all_cons told_rread (all_cons told_rsum (all_cons told_opno (all_cons told_opz (all_cons told_opy (all_cons told_seal (all_cons told_rseal (all_cons told_sealx (all_cons told_rsealx (all_cons told_sealnil (all_cons told_opnil (all_nil))))))))))))) 9000 vwfr (by kernel_rfl) (by kernel_rfl) (by kernel_rfl) (post_nil rfl) (by kernel_rfl) (by kernel_rfl) (all_cons vcfr_0 (all_cons vcfr_1 (all_cons vcfr_2 (all_cons vcfr_3 (all_cons vcfr_4 (all_cons vcfr_5 (all_cons vcfr_6 (all_nil))))))))
noncomputable section
abbrev TTfrz : Tab := T oct.Φ cFr0.roms [cWorks, cRRead, cRSum, cOpenNo, cOpenZ, cOpenY, cSeal, cRSeal, cSealX, cRSealX, cSealNil, cOpenNil]
def pcfrz_0 : List BE := [(BE.lit true), (BE.le (IE.lit 1) (IE.len (LE.rom 1)))]
def pcfrz_1 : List BE := ((BE.le (IE.add (IE.lit 0) (IE.lit 5)) (IE.len (LE.fn 3 (AL.lst (LE.take (LE.rom 0) (IE.lit 0)) AL.nil)))) :: (BE.le (IE.len (LE.fn 3 (AL.lst (LE.take (LE.rom 0) (IE.lit 0)) AL.nil))) (IE.add (IE.lit 0) (IE.lit 14))) :: (BE.le (IE.add (IE.lit 0) (IE.lit 5)) (IE.len (LE.fn 3 (AL.lst LE.nil AL.nil)))) :: (BE.le (IE.len (LE.fn 3 (AL.lst LE.nil AL.nil))) (IE.add (IE.lit 0) (IE.lit 14))) :: (BE.le (IE.len (LE.rom 1)) (IE.lit 500)) :: pcfrz_0)
def pcfrz_2 : List BE := ((BE.leq (LE.fn 3 (AL.lst LE.nil AL.nil)) (LE.fn 3 (AL.lst (LE.take (LE.rom 0) (IE.lit 0)) AL.nil))) :: pcfrz_1)
def pcfrz_3 : List BE := ((BE.eq (IE.fn .i64 21 (AL.lst (LE.cat (LE.fn 3 (AL.lst LE.nil AL.nil)) (LE.rom 1)) AL.nil)) (IE.lit 0)) :: pcfrz_2)
def pcfrz_4 : List BE := ((BE.le (IE.lit 5) (IE.fn .i64 22 (AL.lst (LE.cat (LE.fn 3 (AL.lst LE.nil AL.nil)) (LE.rom 1)) AL.nil))) :: (BE.le (IE.fn .i64 22 (AL.lst (LE.cat (LE.fn 3 (AL.lst LE.nil AL.nil)) (LE.rom 1)) AL.nil)) (IE.add (IE.len (LE.fn 3 (AL.lst LE.nil AL.nil))) (IE.len (LE.rom 1)))) :: (BE.eq (IE.len (LE.fn 5 (AL.lst (LE.cat (LE.fn 3 (AL.lst LE.nil AL.nil)) (LE.rom 1)) AL.nil))) (IE.lit 0)) :: pcfrz_3)
def pcfrz_5 : List BE := ((BE.le (IE.lit 5) (IE.fn .i64 22 (AL.lst (LE.cat (LE.fn 3 (AL.lst LE.nil AL.nil)) (LE.rom 1)) AL.nil))) :: (BE.le (IE.fn .i64 22 (AL.lst (LE.cat (LE.fn 3 (AL.lst LE.nil AL.nil)) (LE.rom 1)) AL.nil)) (IE.add (IE.len (LE.fn 3 (AL.lst LE.nil AL.nil))) (IE.len (LE.rom 1)))) :: (BE.not (BE.eq (IE.len (LE.fn 5 (AL.lst (LE.cat (LE.fn 3 (AL.lst LE.nil AL.nil)) (LE.rom 1)) AL.nil))) (IE.lit 0))) :: pcfrz_3)
def pcfrz_6 : List BE := ((BE.leq (LE.fn 5 (AL.lst (LE.cat (LE.fn 3 (AL.lst LE.nil AL.nil)) (LE.rom 1)) AL.nil)) (LE.take (LE.rom 0) (IE.lit 0))) :: pcfrz_5)
def wfrz_0 : VW := (VW.done ((BE.eq (IE.fn .i64 22 (AL.lst (LE.cat (LE.fn 3 (AL.lst LE.nil AL.nil)) (LE.rom 1)) AL.nil)) (IE.len (LE.fn 3 (AL.lst LE.nil AL.nil)))) :: pcfrz_4) (some []))
def wfrz_1 : VW := (VW.done ((BE.not (BE.eq (IE.fn .i64 22 (AL.lst (LE.cat (LE.fn 3 (AL.lst LE.nil AL.nil)) (LE.rom 1)) AL.nil)) (IE.len (LE.fn 3 (AL.lst LE.nil AL.nil))))) :: pcfrz_4) (some [(G.b (BE.lit true) (BE.lit false))]))
def wfrz_2 : VW := (VW.done ((BE.eq (IE.fn .i64 22 (AL.lst (LE.cat (LE.fn 3 (AL.lst LE.nil AL.nil)) (LE.rom 1)) AL.nil)) (IE.len (LE.fn 3 (AL.lst LE.nil AL.nil)))) :: pcfrz_6) (some []))
def wfrz_3 : VW := (VW.done ((BE.not (BE.eq (IE.fn .i64 22 (AL.lst (LE.cat (LE.fn 3 (AL.lst LE.nil AL.nil)) (LE.rom 1)) AL.nil)) (IE.len (LE.fn 3 (AL.lst LE.nil AL.nil))))) :: pcfrz_6) (some [(G.b (BE.lit true) (BE.lit false))]))
def wfrz_4 : VW := (VW.done ((BE.not (BE.leq (LE.fn 5 (AL.lst (LE.cat (LE.fn 3 (AL.lst LE.nil AL.nil)) (LE.rom 1)) AL.nil)) (LE.take (LE.rom 0) (IE.lit 0)))) :: pcfrz_5) (some [(G.b (BE.lit true) (BE.lit false))]))
def wfrz_5 : VW := (VW.done ((BE.not (BE.eq (IE.fn .i64 21 (AL.lst (LE.cat (LE.fn 3 (AL.lst LE.nil AL.nil)) (LE.rom 1)) AL.nil)) (IE.lit 0))) :: pcfrz_2) (some [(G.b (BE.lit true) (BE.lit false))]))
def wfrz_6 : VW := (VW.done ((BE.not (BE.leq (LE.fn 3 (AL.lst LE.nil AL.nil)) (LE.fn 3 (AL.lst (LE.take (LE.rom 0) (IE.lit 0)) AL.nil)))) :: pcfrz_1) (some [(G.b (BE.lit true) (BE.lit false))]))
def wfrz_7 : VW := (VW.done ((BE.not (BE.le (IE.len (LE.rom 1)) (IE.lit 500))) :: pcfrz_0) (some []))
def vwfrz : List VW := [wfrz_0, wfrz_1, wfrz_2, wfrz_3, wfrz_4, wfrz_5, wfrz_6, wfrz_7]
end
theorem vcfrz_0 : VD TTfrz (st0 cFr0) wfrz_0 := by
  intro ρ kn hp
  exact all_nil
theorem vcfrz_1 : VD TTfrz (st0 cFr0) wfrz_1 := by
  intro ρ kn hp
  have hF : ρ.z.F = oct.Φ := kn.F
  simp only [h_nil, h_cons, d_le, d_eq, d_not, d_var, d_lit, d_cel, d_leq, d_fn, d_and, d_iff, IE.den, LE.den, AL.den, lenV, true_and, and_true, pcfrz_4, pcfrz_3, pcfrz_2, pcfrz_1, pcfrz_0, hF, pi2, pi3, pi4, pi5, pi6, pi7, pi20, pl1, pi21, pi22, pl2, cE, cN, cV, cO, cM, sum_in, List.map_cons, List.map_nil, AV.cell, four_qs] at hp
  obtain ⟨p1, p2, p3, p4, p5, p6, p7, p8, p9, p10, p11, p12⟩ := hp
  exfalso
  have hT : Typed byteK (ρ.z.rl 0) := kn.rom 0 _ _ rfl
  have hT1 : Typed byteK (ρ.z.rl 1) := kn.rom 1 _ _ rfl
  have e3 : (ρ.z.rl 0).take (0 : Int).toNat = [] := rfl
  have e4 : (ρ.z.rl 1).take (0 : Int).toNat = [] := rfl
  have e5 : ∀ x : LV, (x ++ []) ++ List.drop ((x.length : Int)).toNat x = x ++ [] := fun x => by simp
  try simp only [e3] at *
  try simp only [e4] at *
  try simp only [pl3t typed_nil] at *
  try simp only [e5] at *
  try simp only [pl5t (app_typed (seal_typed typed_nil) hT1)] at *
  have hq : (([] : LV).length : Int) ≤ 65536 := by first | omega | decide
  obtain ⟨k1, k2, k3⟩ := open_back (b := []) hq (ρ.z.rl 1)
  have k4 := congrArg List.length k3
  first
    | with_reducible exact absurd k3 p1
    | with_reducible exact absurd k2 p1
    | with_reducible exact absurd k1 p1
    | omega
    | with_reducible contradiction
    | with_reducible exact absurd rfl (by assumption)
    | (simp only [List.length_nil] at *; omega)
theorem vcfrz_2 : VD TTfrz (st0 cFr0) wfrz_2 := by
  intro ρ kn hp
  exact all_nil
theorem vcfrz_3 : VD TTfrz (st0 cFr0) wfrz_3 := by
  intro ρ kn hp
  have hF : ρ.z.F = oct.Φ := kn.F
  simp only [h_nil, h_cons, d_le, d_eq, d_not, d_var, d_lit, d_cel, d_leq, d_fn, d_and, d_iff, IE.den, LE.den, AL.den, lenV, true_and, and_true, pcfrz_6, pcfrz_5, pcfrz_3, pcfrz_2, pcfrz_1, pcfrz_0, hF, pi2, pi3, pi4, pi5, pi6, pi7, pi20, pl1, pi21, pi22, pl2, cE, cN, cV, cO, cM, sum_in, List.map_cons, List.map_nil, AV.cell, four_qs] at hp
  obtain ⟨p1, p2, p3, p4, p5, p6, p7, p8, p9, p10, p11, p12, p13⟩ := hp
  exfalso
  have hT : Typed byteK (ρ.z.rl 0) := kn.rom 0 _ _ rfl
  have hT1 : Typed byteK (ρ.z.rl 1) := kn.rom 1 _ _ rfl
  have e3 : (ρ.z.rl 0).take (0 : Int).toNat = [] := rfl
  have e4 : (ρ.z.rl 1).take (0 : Int).toNat = [] := rfl
  have e5 : ∀ x : LV, (x ++ []) ++ List.drop ((x.length : Int)).toNat x = x ++ [] := fun x => by simp
  try simp only [e3] at *
  try simp only [e4] at *
  try simp only [pl3t typed_nil] at *
  try simp only [e5] at *
  try simp only [pl5t (app_typed (seal_typed typed_nil) hT1)] at *
  have hq : (([] : LV).length : Int) ≤ 65536 := by first | omega | decide
  obtain ⟨k1, k2, k3⟩ := open_back (b := []) hq (ρ.z.rl 1)
  have k4 := congrArg List.length k3
  first
    | with_reducible exact absurd k3 p1
    | with_reducible exact absurd k2 p1
    | with_reducible exact absurd k1 p1
    | omega
    | with_reducible contradiction
    | with_reducible exact absurd rfl (by assumption)
    | (simp only [List.length_nil] at *; omega)
theorem vcfrz_4 : VD TTfrz (st0 cFr0) wfrz_4 := by
  intro ρ kn hp
  have hF : ρ.z.F = oct.Φ := kn.F
  simp only [h_nil, h_cons, d_le, d_eq, d_not, d_var, d_lit, d_cel, d_leq, d_fn, d_and, d_iff, IE.den, LE.den, AL.den, lenV, true_and, and_true, pcfrz_5, pcfrz_3, pcfrz_2, pcfrz_1, pcfrz_0, hF, pi2, pi3, pi4, pi5, pi6, pi7, pi20, pl1, pi21, pi22, pl2, cE, cN, cV, cO, cM, sum_in, List.map_cons, List.map_nil, AV.cell, four_qs] at hp
  obtain ⟨p1, p2, p3, p4, p5, p6, p7, p8, p9, p10, p11, p12⟩ := hp
  exfalso
  have hT : Typed byteK (ρ.z.rl 0) := kn.rom 0 _ _ rfl
  have hT1 : Typed byteK (ρ.z.rl 1) := kn.rom 1 _ _ rfl
  have e3 : (ρ.z.rl 0).take (0 : Int).toNat = [] := rfl
  have e4 : (ρ.z.rl 1).take (0 : Int).toNat = [] := rfl
  have e5 : ∀ x : LV, (x ++ []) ++ List.drop ((x.length : Int)).toNat x = x ++ [] := fun x => by simp
  try simp only [e3] at *
  try simp only [e4] at *
  try simp only [pl3t typed_nil] at *
  try simp only [e5] at *
  try simp only [pl5t (app_typed (seal_typed typed_nil) hT1)] at *
  have hq : (([] : LV).length : Int) ≤ 65536 := by first | omega | decide
  obtain ⟨k1, k2, k3⟩ := open_back (b := []) hq (ρ.z.rl 1)
  have k4 := congrArg List.length k3
  first
    | with_reducible exact absurd k3 p1
    | with_reducible exact absurd k2 p1
    | with_reducible exact absurd k1 p1
    | omega
    | with_reducible contradiction
    | with_reducible exact absurd rfl (by assumption)
    | (simp only [List.length_nil] at *; omega)
theorem vcfrz_5 : VD TTfrz (st0 cFr0) wfrz_5 := by
  intro ρ kn hp
  have hF : ρ.z.F = oct.Φ := kn.F
  simp only [h_nil, h_cons, d_le, d_eq, d_not, d_var, d_lit, d_cel, d_leq, d_fn, d_and, d_iff, IE.den, LE.den, AL.den, lenV, true_and, and_true, pcfrz_2, pcfrz_1, pcfrz_0, hF, pi2, pi3, pi4, pi5, pi6, pi7, pi20, pl1, pi21, pi22, pl2, cE, cN, cV, cO, cM, sum_in, List.map_cons, List.map_nil, AV.cell, four_qs] at hp
  obtain ⟨p1, p2, p3, p4, p5, p6, p7, p8⟩ := hp
  exfalso
  have hT : Typed byteK (ρ.z.rl 0) := kn.rom 0 _ _ rfl
  have hT1 : Typed byteK (ρ.z.rl 1) := kn.rom 1 _ _ rfl
  have e3 : (ρ.z.rl 0).take (0 : Int).toNat = [] := rfl
  have e4 : (ρ.z.rl 1).take (0 : Int).toNat = [] := rfl
  have e5 : ∀ x : LV, (x ++ []) ++ List.drop ((x.length : Int)).toNat x = x ++ [] := fun x => by simp
  try simp only [e3] at *
  try simp only [e4] at *
  try simp only [pl3t typed_nil] at *
  try simp only [e5] at *
  try simp only [pl5t (app_typed (seal_typed typed_nil) hT1)] at *
  have hq : (([] : LV).length : Int) ≤ 65536 := by first | omega | decide
  obtain ⟨k1, k2, k3⟩ := open_back (b := []) hq (ρ.z.rl 1)
  have k4 := congrArg List.length k3
  first
    | with_reducible exact absurd k3 p1
    | with_reducible exact absurd k2 p1
    | with_reducible exact absurd k1 p1
    | omega
    | with_reducible contradiction
    | with_reducible exact absurd rfl (by assumption)
    | (simp only [List.length_nil] at *; omega)
theorem vcfrz_6 : VD TTfrz (st0 cFr0) wfrz_6 := by
  intro ρ kn hp
  have hF : ρ.z.F = oct.Φ := kn.F
  simp only [h_nil, h_cons, d_le, d_eq, d_not, d_var, d_lit, d_cel, d_leq, d_fn, d_and, d_iff, IE.den, LE.den, AL.den, lenV, true_and, and_true, pcfrz_1, pcfrz_0, hF, pi2, pi3, pi4, pi5, pi6, pi7, pi20, pl1, pi21, pi22, pl2, cE, cN, cV, cO, cM, sum_in, List.map_cons, List.map_nil, AV.cell, four_qs] at hp
  obtain ⟨p1, p2, p3, p4, p5, p6, p7⟩ := hp
  exfalso
  have hT : Typed byteK (ρ.z.rl 0) := kn.rom 0 _ _ rfl
  have hT1 : Typed byteK (ρ.z.rl 1) := kn.rom 1 _ _ rfl
  have e3 : (ρ.z.rl 0).take (0 : Int).toNat = [] := rfl
  have e4 : (ρ.z.rl 1).take (0 : Int).toNat = [] := rfl
  have e5 : ∀ x : LV, (x ++ []) ++ List.drop ((x.length : Int)).toNat x = x ++ [] := fun x => by simp
  try simp only [e3] at *
  try simp only [e4] at *
  try simp only [pl3t typed_nil] at *
  try simp only [e5] at *
  try simp only [pl5t (app_typed (seal_typed typed_nil) hT1)] at *
  have hq : (([] : LV).length : Int) ≤ 65536 := by first | omega | decide
  obtain ⟨k1, k2, k3⟩ := open_back (b := []) hq (ρ.z.rl 1)
  have k4 := congrArg List.length k3
  first
    | with_reducible exact absurd k3 p1
    | with_reducible exact absurd k2 p1
    | with_reducible exact absurd k1 p1
    | omega
    | with_reducible contradiction
    | with_reducible exact absurd rfl (by assumption)
    | (simp only [List.length_nil] at *; omega)
theorem vcfrz_7 : VD TTfrz (st0 cFr0) wfrz_7 := by
  intro ρ kn hp
  exact all_nil
theorem told_frz : Sx.Told oct.Φ cFr0 := told_vw (cs := [cWorks, cRRead, cRSum, cOpenNo, cOpenZ, cOpenY, cSeal, cRSeal, cSealX, cRSealX, cSealNil, cOpenNil]) (all_cons told_works (all_cons told_rread (all_cons told_rsum (all_cons told_opno (all_cons told_opz (all_cons told_opy (all_cons told_seal (all_cons told_rseal (all_cons told_sealx (all_cons told_rsealx (all_cons told_sealnil (all_cons told_opnil (all_nil))))))))))))) 9000 vwfrz (by kernel_rfl) (by kernel_rfl) (by kernel_rfl) (post_nil rfl) (by kernel_rfl) (by kernel_rfl) (all_cons vcfrz_0 (all_cons vcfrz_1 (all_cons vcfrz_2 (all_cons vcfrz_3 (all_cons vcfrz_4 (all_cons vcfrz_5 (all_cons vcfrz_6 (all_cons vcfrz_7 (all_nil)))))))))
noncomputable section
abbrev TTfry : Tab := T oct.Φ cFr1.roms [cWorks, cRRead, cRSum, cOpenNo, cOpenZ, cOpenY, cSeal, cRSeal, cSealX, cRSealX, cSealNil, cOpenNil]
def pcfry_0 : List BE := [(BE.lit true), (BE.le (IE.lit 1) (IE.len (LE.rom 0)))]
def pcfry_1 : List BE := ((BE.le (IE.add (IE.len (LE.rom 0)) (IE.lit 5)) (IE.len (LE.fn 3 (AL.lst (LE.rom 0) AL.nil)))) :: (BE.le (IE.len (LE.fn 3 (AL.lst (LE.rom 0) AL.nil))) (IE.add (IE.len (LE.rom 0)) (IE.lit 14))) :: (BE.le (IE.add (IE.len (LE.rom 0)) (IE.lit 5)) (IE.len (LE.fn 3 (AL.lst (LE.rom 0) AL.nil)))) :: (BE.le (IE.len (LE.fn 3 (AL.lst (LE.rom 0) AL.nil))) (IE.add (IE.len (LE.rom 0)) (IE.lit 14))) :: (BE.le (IE.len (LE.rom 0)) (IE.lit 2000)) :: pcfry_0)
def pcfry_2 : List BE := ((BE.eq (IE.fn .i64 21 (AL.lst (LE.cat (LE.cat (LE.fn 3 (AL.lst (LE.rom 0) AL.nil)) (LE.take (LE.rom 1) (IE.lit 0))) (LE.drop (LE.fn 3 (AL.lst (LE.rom 0) AL.nil)) (IE.len (LE.fn 3 (AL.lst (LE.rom 0) AL.nil))))) AL.nil)) (IE.lit 0)) :: pcfry_1)
def pcfry_3 : List BE := ((BE.le (IE.lit 5) (IE.fn .i64 22 (AL.lst (LE.cat (LE.cat (LE.fn 3 (AL.lst (LE.rom 0) AL.nil)) (LE.take (LE.rom 1) (IE.lit 0))) (LE.drop (LE.fn 3 (AL.lst (LE.rom 0) AL.nil)) (IE.len (LE.fn 3 (AL.lst (LE.rom 0) AL.nil))))) AL.nil))) :: (BE.le (IE.fn .i64 22 (AL.lst (LE.cat (LE.cat (LE.fn 3 (AL.lst (LE.rom 0) AL.nil)) (LE.take (LE.rom 1) (IE.lit 0))) (LE.drop (LE.fn 3 (AL.lst (LE.rom 0) AL.nil)) (IE.len (LE.fn 3 (AL.lst (LE.rom 0) AL.nil))))) AL.nil)) (IE.len (LE.fn 3 (AL.lst (LE.rom 0) AL.nil)))) :: (BE.not (BE.eq (IE.len (LE.fn 5 (AL.lst (LE.cat (LE.cat (LE.fn 3 (AL.lst (LE.rom 0) AL.nil)) (LE.take (LE.rom 1) (IE.lit 0))) (LE.drop (LE.fn 3 (AL.lst (LE.rom 0) AL.nil)) (IE.len (LE.fn 3 (AL.lst (LE.rom 0) AL.nil))))) AL.nil))) (IE.lit 0))) :: pcfry_2)
def pcfry_4 : List BE := ((BE.leq (LE.fn 5 (AL.lst (LE.cat (LE.cat (LE.fn 3 (AL.lst (LE.rom 0) AL.nil)) (LE.take (LE.rom 1) (IE.lit 0))) (LE.drop (LE.fn 3 (AL.lst (LE.rom 0) AL.nil)) (IE.len (LE.fn 3 (AL.lst (LE.rom 0) AL.nil))))) AL.nil)) (LE.rom 0)) :: pcfry_3)
def wfry_0 : VW := (VW.done ((BE.le (IE.lit 5) (IE.fn .i64 22 (AL.lst (LE.cat (LE.cat (LE.fn 3 (AL.lst (LE.rom 0) AL.nil)) (LE.take (LE.rom 1) (IE.lit 0))) (LE.drop (LE.fn 3 (AL.lst (LE.rom 0) AL.nil)) (IE.len (LE.fn 3 (AL.lst (LE.rom 0) AL.nil))))) AL.nil))) :: (BE.le (IE.fn .i64 22 (AL.lst (LE.cat (LE.cat (LE.fn 3 (AL.lst (LE.rom 0) AL.nil)) (LE.take (LE.rom 1) (IE.lit 0))) (LE.drop (LE.fn 3 (AL.lst (LE.rom 0) AL.nil)) (IE.len (LE.fn 3 (AL.lst (LE.rom 0) AL.nil))))) AL.nil)) (IE.len (LE.fn 3 (AL.lst (LE.rom 0) AL.nil)))) :: (BE.eq (IE.len (LE.fn 5 (AL.lst (LE.cat (LE.cat (LE.fn 3 (AL.lst (LE.rom 0) AL.nil)) (LE.take (LE.rom 1) (IE.lit 0))) (LE.drop (LE.fn 3 (AL.lst (LE.rom 0) AL.nil)) (IE.len (LE.fn 3 (AL.lst (LE.rom 0) AL.nil))))) AL.nil))) (IE.lit 0)) :: pcfry_2) (some [(G.b (BE.lit true) (BE.lit false))]))
def wfry_1 : VW := (VW.done ((BE.eq (IE.fn .i64 22 (AL.lst (LE.cat (LE.cat (LE.fn 3 (AL.lst (LE.rom 0) AL.nil)) (LE.take (LE.rom 1) (IE.lit 0))) (LE.drop (LE.fn 3 (AL.lst (LE.rom 0) AL.nil)) (IE.len (LE.fn 3 (AL.lst (LE.rom 0) AL.nil))))) AL.nil)) (IE.len (LE.fn 3 (AL.lst (LE.rom 0) AL.nil)))) :: pcfry_4) (some []))
def wfry_2 : VW := (VW.done ((BE.not (BE.eq (IE.fn .i64 22 (AL.lst (LE.cat (LE.cat (LE.fn 3 (AL.lst (LE.rom 0) AL.nil)) (LE.take (LE.rom 1) (IE.lit 0))) (LE.drop (LE.fn 3 (AL.lst (LE.rom 0) AL.nil)) (IE.len (LE.fn 3 (AL.lst (LE.rom 0) AL.nil))))) AL.nil)) (IE.len (LE.fn 3 (AL.lst (LE.rom 0) AL.nil))))) :: pcfry_4) (some [(G.b (BE.lit true) (BE.lit false))]))
def wfry_3 : VW := (VW.done ((BE.not (BE.leq (LE.fn 5 (AL.lst (LE.cat (LE.cat (LE.fn 3 (AL.lst (LE.rom 0) AL.nil)) (LE.take (LE.rom 1) (IE.lit 0))) (LE.drop (LE.fn 3 (AL.lst (LE.rom 0) AL.nil)) (IE.len (LE.fn 3 (AL.lst (LE.rom 0) AL.nil))))) AL.nil)) (LE.rom 0))) :: pcfry_3) (some [(G.b (BE.lit true) (BE.lit false))]))
def wfry_4 : VW := (VW.done ((BE.not (BE.eq (IE.fn .i64 21 (AL.lst (LE.cat (LE.cat (LE.fn 3 (AL.lst (LE.rom 0) AL.nil)) (LE.take (LE.rom 1) (IE.lit 0))) (LE.drop (LE.fn 3 (AL.lst (LE.rom 0) AL.nil)) (IE.len (LE.fn 3 (AL.lst (LE.rom 0) AL.nil))))) AL.nil)) (IE.lit 0))) :: pcfry_1) (some [(G.b (BE.lit true) (BE.lit false))]))
def wfry_5 : VW := (VW.done ((BE.not (BE.le (IE.len (LE.rom 0)) (IE.lit 2000))) :: pcfry_0) (some []))
def vwfry : List VW := [wfry_0, wfry_1, wfry_2, wfry_3, wfry_4, wfry_5]
end
theorem vcfry_0 : VD TTfry (st0 cFr1) wfry_0 := by
  intro ρ kn hp
  have hF : ρ.z.F = oct.Φ := kn.F
  simp only [h_nil, h_cons, d_le, d_eq, d_not, d_var, d_lit, d_cel, d_leq, d_fn, d_and, d_iff, IE.den, LE.den, AL.den, lenV, true_and, and_true, pcfry_2, pcfry_1, pcfry_0, hF, pi2, pi3, pi4, pi5, pi6, pi7, pi20, pl1, pi21, pi22, pl2, cE, cN, cV, cO, cM, sum_in, List.map_cons, List.map_nil, AV.cell, four_qs] at hp
  obtain ⟨p1, p2, p3, p4, p5, p6, p7, p8, p9, p10⟩ := hp
  exfalso
  have hT : Typed byteK (ρ.z.rl 0) := kn.rom 0 _ _ rfl
  have hT1 : Typed byteK (ρ.z.rl 1) := kn.rom 1 _ _ rfl
  have e3 : (ρ.z.rl 0).take (0 : Int).toNat = [] := rfl
  have e4 : (ρ.z.rl 1).take (0 : Int).toNat = [] := rfl
  have e5 : ∀ x : LV, (x ++ []) ++ List.drop ((x.length : Int)).toNat x = x ++ [] := fun x => by simp
  try simp only [e3] at *
  try simp only [e4] at *
  try simp only [pl3t hT] at *
  try simp only [e5] at *
  try simp only [pl5t (app_typed (seal_typed hT) typed_nil)] at *
  have hq : (((ρ.z.rl 0) : LV).length : Int) ≤ 65536 := by first | omega | decide
  obtain ⟨k1, k2, k3⟩ := open_back (b := (ρ.z.rl 0)) hq []
  have k4 := congrArg List.length k3
  first
    | with_reducible exact absurd k3 p1
    | with_reducible exact absurd k2 p1
    | with_reducible exact absurd k1 p1
    | omega
    | with_reducible contradiction
    | with_reducible exact absurd rfl (by assumption)
    | (simp only [List.length_nil] at *; omega)
theorem vcfry_1 : VD TTfry (st0 cFr1) wfry_1 := by
  intro ρ kn hp
  exact all_nil
theorem vcfry_2 : VD TTfry (st0 cFr1) wfry_2 := by
  intro ρ kn hp
  have hF : ρ.z.F = oct.Φ := kn.F
  simp only [h_nil, h_cons, d_le, d_eq, d_not, d_var, d_lit, d_cel, d_leq, d_fn, d_and, d_iff, IE.den, LE.den, AL.den, lenV, true_and, and_true, pcfry_4, pcfry_3, pcfry_2, pcfry_1, pcfry_0, hF, pi2, pi3, pi4, pi5, pi6, pi7, pi20, pl1, pi21, pi22, pl2, cE, cN, cV, cO, cM, sum_in, List.map_cons, List.map_nil, AV.cell, four_qs] at hp
  obtain ⟨p1, p2, p3, p4, p5, p6, p7, p8, p9, p10, p11, p12⟩ := hp
  exfalso
  have hT : Typed byteK (ρ.z.rl 0) := kn.rom 0 _ _ rfl
  have hT1 : Typed byteK (ρ.z.rl 1) := kn.rom 1 _ _ rfl
  have e3 : (ρ.z.rl 0).take (0 : Int).toNat = [] := rfl
  have e4 : (ρ.z.rl 1).take (0 : Int).toNat = [] := rfl
  have e5 : ∀ x : LV, (x ++ []) ++ List.drop ((x.length : Int)).toNat x = x ++ [] := fun x => by simp
  try simp only [e3] at *
  try simp only [e4] at *
  try simp only [pl3t hT] at *
  try simp only [e5] at *
  try simp only [pl5t (app_typed (seal_typed hT) typed_nil)] at *
  have hq : (((ρ.z.rl 0) : LV).length : Int) ≤ 65536 := by first | omega | decide
  obtain ⟨k1, k2, k3⟩ := open_back (b := (ρ.z.rl 0)) hq []
  have k4 := congrArg List.length k3
  first
    | with_reducible exact absurd k3 p1
    | with_reducible exact absurd k2 p1
    | with_reducible exact absurd k1 p1
    | omega
    | with_reducible contradiction
    | with_reducible exact absurd rfl (by assumption)
    | (simp only [List.length_nil] at *; omega)
theorem vcfry_3 : VD TTfry (st0 cFr1) wfry_3 := by
  intro ρ kn hp
  have hF : ρ.z.F = oct.Φ := kn.F
  simp only [h_nil, h_cons, d_le, d_eq, d_not, d_var, d_lit, d_cel, d_leq, d_fn, d_and, d_iff, IE.den, LE.den, AL.den, lenV, true_and, and_true, pcfry_3, pcfry_2, pcfry_1, pcfry_0, hF, pi2, pi3, pi4, pi5, pi6, pi7, pi20, pl1, pi21, pi22, pl2, cE, cN, cV, cO, cM, sum_in, List.map_cons, List.map_nil, AV.cell, four_qs] at hp
  obtain ⟨p1, p2, p3, p4, p5, p6, p7, p8, p9, p10, p11⟩ := hp
  exfalso
  have hT : Typed byteK (ρ.z.rl 0) := kn.rom 0 _ _ rfl
  have hT1 : Typed byteK (ρ.z.rl 1) := kn.rom 1 _ _ rfl
  have e3 : (ρ.z.rl 0).take (0 : Int).toNat = [] := rfl
  have e4 : (ρ.z.rl 1).take (0 : Int).toNat = [] := rfl
  have e5 : ∀ x : LV, (x ++ []) ++ List.drop ((x.length : Int)).toNat x = x ++ [] := fun x => by simp
  try simp only [e3] at *
  try simp only [e4] at *
  try simp only [pl3t hT] at *
  try simp only [e5] at *
  try simp only [pl5t (app_typed (seal_typed hT) typed_nil)] at *
  have hq : (((ρ.z.rl 0) : LV).length : Int) ≤ 65536 := by first | omega | decide
  obtain ⟨k1, k2, k3⟩ := open_back (b := (ρ.z.rl 0)) hq []
  have k4 := congrArg List.length k3
  first
    | with_reducible exact absurd k3 p1
    | with_reducible exact absurd k2 p1
    | with_reducible exact absurd k1 p1
    | omega
    | with_reducible contradiction
    | with_reducible exact absurd rfl (by assumption)
    | (simp only [List.length_nil] at *; omega)
theorem vcfry_4 : VD TTfry (st0 cFr1) wfry_4 := by
  intro ρ kn hp
  have hF : ρ.z.F = oct.Φ := kn.F
  simp only [h_nil, h_cons, d_le, d_eq, d_not, d_var, d_lit, d_cel, d_leq, d_fn, d_and, d_iff, IE.den, LE.den, AL.den, lenV, true_and, and_true, pcfry_1, pcfry_0, hF, pi2, pi3, pi4, pi5, pi6, pi7, pi20, pl1, pi21, pi22, pl2, cE, cN, cV, cO, cM, sum_in, List.map_cons, List.map_nil, AV.cell, four_qs] at hp
  obtain ⟨p1, p2, p3, p4, p5, p6, p7⟩ := hp
  exfalso
  have hT : Typed byteK (ρ.z.rl 0) := kn.rom 0 _ _ rfl
  have hT1 : Typed byteK (ρ.z.rl 1) := kn.rom 1 _ _ rfl
  have e3 : (ρ.z.rl 0).take (0 : Int).toNat = [] := rfl
  have e4 : (ρ.z.rl 1).take (0 : Int).toNat = [] := rfl
  have e5 : ∀ x : LV, (x ++ []) ++ List.drop ((x.length : Int)).toNat x = x ++ [] := fun x => by simp
  try simp only [e3] at *
  try simp only [e4] at *
  try simp only [pl3t hT] at *
  try simp only [e5] at *
  try simp only [pl5t (app_typed (seal_typed hT) typed_nil)] at *
  have hq : (((ρ.z.rl 0) : LV).length : Int) ≤ 65536 := by first | omega | decide
  obtain ⟨k1, k2, k3⟩ := open_back (b := (ρ.z.rl 0)) hq []
  have k4 := congrArg List.length k3
  first
    | with_reducible exact absurd k3 p1
    | with_reducible exact absurd k2 p1
    | with_reducible exact absurd k1 p1
    | omega
    | with_reducible contradiction
    | with_reducible exact absurd rfl (by assumption)
    | (simp only [List.length_nil] at *; omega)
theorem vcfry_5 : VD TTfry (st0 cFr1) wfry_5 := by
  intro ρ kn hp
  exact all_nil
theorem told_fry : Sx.Told oct.Φ cFr1 := told_vw (cs := [cWorks, cRRead, cRSum, cOpenNo, cOpenZ, cOpenY, cSeal, cRSeal, cSealX, cRSealX, cSealNil, cOpenNil]) (all_cons told_works (all_cons told_rread (all_cons told_rsum (all_cons told_opno (all_cons told_opz (all_cons told_opy (all_cons told_seal (all_cons told_rseal (all_cons told_sealx (all_cons told_rsealx (all_cons told_sealnil (all_cons told_opnil (all_nil))))))))))))) 9000 vwfry (by kernel_rfl) (by kernel_rfl) (by kernel_rfl) (post_nil rfl) (by kernel_rfl) (by kernel_rfl) (all_cons vcfry_0 (all_cons vcfry_1 (all_cons vcfry_2 (all_cons vcfry_3 (all_cons vcfry_4 (all_cons vcfry_5 (all_nil)))))))
noncomputable section
abbrev TTfrx : Tab := T oct.Φ cFr2.roms [cWorks, cRRead, cRSum, cOpenNo, cOpenZ, cOpenY, cSeal, cRSeal, cSealX, cRSealX, cSealNil, cOpenNil]
def pcfrx_0 : List BE := [(BE.le (IE.add (IE.lit 0) (IE.lit 5)) (IE.len (LE.fn 3 (AL.lst (LE.take (LE.rom 0) (IE.lit 0)) AL.nil)))), (BE.le (IE.len (LE.fn 3 (AL.lst (LE.take (LE.rom 0) (IE.lit 0)) AL.nil))) (IE.add (IE.lit 0) (IE.lit 14))), (BE.le (IE.add (IE.lit 0) (IE.lit 5)) (IE.len (LE.fn 3 (AL.lst LE.nil AL.nil)))), (BE.le (IE.len (LE.fn 3 (AL.lst LE.nil AL.nil))) (IE.add (IE.lit 0) (IE.lit 14))), (BE.lit true)]
def pcfrx_1 : List BE := ((BE.leq (LE.fn 3 (AL.lst LE.nil AL.nil)) (LE.fn 3 (AL.lst (LE.take (LE.rom 0) (IE.lit 0)) AL.nil))) :: pcfrx_0)
def pcfrx_2 : List BE := ((BE.eq (IE.fn .i64 21 (AL.lst (LE.cat (LE.cat (LE.fn 3 (AL.lst LE.nil AL.nil)) (LE.take (LE.rom 1) (IE.lit 0))) (LE.drop (LE.fn 3 (AL.lst LE.nil AL.nil)) (IE.len (LE.fn 3 (AL.lst LE.nil AL.nil))))) AL.nil)) (IE.lit 0)) :: pcfrx_1)
def pcfrx_3 : List BE := ((BE.le (IE.lit 5) (IE.fn .i64 22 (AL.lst (LE.cat (LE.cat (LE.fn 3 (AL.lst LE.nil AL.nil)) (LE.take (LE.rom 1) (IE.lit 0))) (LE.drop (LE.fn 3 (AL.lst LE.nil AL.nil)) (IE.len (LE.fn 3 (AL.lst LE.nil AL.nil))))) AL.nil))) :: (BE.le (IE.fn .i64 22 (AL.lst (LE.cat (LE.cat (LE.fn 3 (AL.lst LE.nil AL.nil)) (LE.take (LE.rom 1) (IE.lit 0))) (LE.drop (LE.fn 3 (AL.lst LE.nil AL.nil)) (IE.len (LE.fn 3 (AL.lst LE.nil AL.nil))))) AL.nil)) (IE.len (LE.fn 3 (AL.lst LE.nil AL.nil)))) :: (BE.eq (IE.len (LE.fn 5 (AL.lst (LE.cat (LE.cat (LE.fn 3 (AL.lst LE.nil AL.nil)) (LE.take (LE.rom 1) (IE.lit 0))) (LE.drop (LE.fn 3 (AL.lst LE.nil AL.nil)) (IE.len (LE.fn 3 (AL.lst LE.nil AL.nil))))) AL.nil))) (IE.lit 0)) :: pcfrx_2)
def pcfrx_4 : List BE := ((BE.le (IE.lit 5) (IE.fn .i64 22 (AL.lst (LE.cat (LE.cat (LE.fn 3 (AL.lst LE.nil AL.nil)) (LE.take (LE.rom 1) (IE.lit 0))) (LE.drop (LE.fn 3 (AL.lst LE.nil AL.nil)) (IE.len (LE.fn 3 (AL.lst LE.nil AL.nil))))) AL.nil))) :: (BE.le (IE.fn .i64 22 (AL.lst (LE.cat (LE.cat (LE.fn 3 (AL.lst LE.nil AL.nil)) (LE.take (LE.rom 1) (IE.lit 0))) (LE.drop (LE.fn 3 (AL.lst LE.nil AL.nil)) (IE.len (LE.fn 3 (AL.lst LE.nil AL.nil))))) AL.nil)) (IE.len (LE.fn 3 (AL.lst LE.nil AL.nil)))) :: (BE.not (BE.eq (IE.len (LE.fn 5 (AL.lst (LE.cat (LE.cat (LE.fn 3 (AL.lst LE.nil AL.nil)) (LE.take (LE.rom 1) (IE.lit 0))) (LE.drop (LE.fn 3 (AL.lst LE.nil AL.nil)) (IE.len (LE.fn 3 (AL.lst LE.nil AL.nil))))) AL.nil))) (IE.lit 0))) :: pcfrx_2)
def pcfrx_5 : List BE := ((BE.leq (LE.fn 5 (AL.lst (LE.cat (LE.cat (LE.fn 3 (AL.lst LE.nil AL.nil)) (LE.take (LE.rom 1) (IE.lit 0))) (LE.drop (LE.fn 3 (AL.lst LE.nil AL.nil)) (IE.len (LE.fn 3 (AL.lst LE.nil AL.nil))))) AL.nil)) (LE.take (LE.rom 0) (IE.lit 0))) :: pcfrx_4)
def wfrx_0 : VW := (VW.done ((BE.eq (IE.fn .i64 22 (AL.lst (LE.cat (LE.cat (LE.fn 3 (AL.lst LE.nil AL.nil)) (LE.take (LE.rom 1) (IE.lit 0))) (LE.drop (LE.fn 3 (AL.lst LE.nil AL.nil)) (IE.len (LE.fn 3 (AL.lst LE.nil AL.nil))))) AL.nil)) (IE.len (LE.fn 3 (AL.lst LE.nil AL.nil)))) :: pcfrx_3) (some []))
def wfrx_1 : VW := (VW.done ((BE.not (BE.eq (IE.fn .i64 22 (AL.lst (LE.cat (LE.cat (LE.fn 3 (AL.lst LE.nil AL.nil)) (LE.take (LE.rom 1) (IE.lit 0))) (LE.drop (LE.fn 3 (AL.lst LE.nil AL.nil)) (IE.len (LE.fn 3 (AL.lst LE.nil AL.nil))))) AL.nil)) (IE.len (LE.fn 3 (AL.lst LE.nil AL.nil))))) :: pcfrx_3) (some [(G.b (BE.lit true) (BE.lit false))]))
def wfrx_2 : VW := (VW.done ((BE.eq (IE.fn .i64 22 (AL.lst (LE.cat (LE.cat (LE.fn 3 (AL.lst LE.nil AL.nil)) (LE.take (LE.rom 1) (IE.lit 0))) (LE.drop (LE.fn 3 (AL.lst LE.nil AL.nil)) (IE.len (LE.fn 3 (AL.lst LE.nil AL.nil))))) AL.nil)) (IE.len (LE.fn 3 (AL.lst LE.nil AL.nil)))) :: pcfrx_5) (some []))
def wfrx_3 : VW := (VW.done ((BE.not (BE.eq (IE.fn .i64 22 (AL.lst (LE.cat (LE.cat (LE.fn 3 (AL.lst LE.nil AL.nil)) (LE.take (LE.rom 1) (IE.lit 0))) (LE.drop (LE.fn 3 (AL.lst LE.nil AL.nil)) (IE.len (LE.fn 3 (AL.lst LE.nil AL.nil))))) AL.nil)) (IE.len (LE.fn 3 (AL.lst LE.nil AL.nil))))) :: pcfrx_5) (some [(G.b (BE.lit true) (BE.lit false))]))
def wfrx_4 : VW := (VW.done ((BE.not (BE.leq (LE.fn 5 (AL.lst (LE.cat (LE.cat (LE.fn 3 (AL.lst LE.nil AL.nil)) (LE.take (LE.rom 1) (IE.lit 0))) (LE.drop (LE.fn 3 (AL.lst LE.nil AL.nil)) (IE.len (LE.fn 3 (AL.lst LE.nil AL.nil))))) AL.nil)) (LE.take (LE.rom 0) (IE.lit 0)))) :: pcfrx_4) (some [(G.b (BE.lit true) (BE.lit false))]))
def wfrx_5 : VW := (VW.done ((BE.not (BE.eq (IE.fn .i64 21 (AL.lst (LE.cat (LE.cat (LE.fn 3 (AL.lst LE.nil AL.nil)) (LE.take (LE.rom 1) (IE.lit 0))) (LE.drop (LE.fn 3 (AL.lst LE.nil AL.nil)) (IE.len (LE.fn 3 (AL.lst LE.nil AL.nil))))) AL.nil)) (IE.lit 0))) :: pcfrx_1) (some [(G.b (BE.lit true) (BE.lit false))]))
def wfrx_6 : VW := (VW.done ((BE.not (BE.leq (LE.fn 3 (AL.lst LE.nil AL.nil)) (LE.fn 3 (AL.lst (LE.take (LE.rom 0) (IE.lit 0)) AL.nil)))) :: pcfrx_0) (some [(G.b (BE.lit true) (BE.lit false))]))
def vwfrx : List VW := [wfrx_0, wfrx_1, wfrx_2, wfrx_3, wfrx_4, wfrx_5, wfrx_6]
end
theorem vcfrx_0 : VD TTfrx (st0 cFr2) wfrx_0 := by
  intro ρ kn hp
  exact all_nil
theorem vcfrx_1 : VD TTfrx (st0 cFr2) wfrx_1 := by
  intro ρ kn hp
  have hF : ρ.z.F = oct.Φ := kn.F
  simp only [h_nil, h_cons, d_le, d_eq, d_not, d_var, d_lit, d_cel, d_leq, d_fn, d_and, d_iff, IE.den, LE.den, AL.den, lenV, true_and, and_true, pcfrx_3, pcfrx_2, pcfrx_1, pcfrx_0, hF, pi2, pi3, pi4, pi5, pi6, pi7, pi20, pl1, pi21, pi22, pl2, cE, cN, cV, cO, cM, sum_in, List.map_cons, List.map_nil, AV.cell, four_qs] at hp
  obtain ⟨p1, p2, p3, p4, p5, p6, p7, p8, p9, p10⟩ := hp
  exfalso
  have hT : Typed byteK (ρ.z.rl 0) := kn.rom 0 _ _ rfl
  have hT1 : Typed byteK (ρ.z.rl 1) := kn.rom 1 _ _ rfl
  have e3 : (ρ.z.rl 0).take (0 : Int).toNat = [] := rfl
  have e4 : (ρ.z.rl 1).take (0 : Int).toNat = [] := rfl
  have e5 : ∀ x : LV, (x ++ []) ++ List.drop ((x.length : Int)).toNat x = x ++ [] := fun x => by simp
  try simp only [e3] at *
  try simp only [e4] at *
  try simp only [pl3t typed_nil] at *
  try simp only [e5] at *
  try simp only [pl5t (app_typed (seal_typed typed_nil) typed_nil)] at *
  have hq : (([] : LV).length : Int) ≤ 65536 := by first | omega | decide
  obtain ⟨k1, k2, k3⟩ := open_back (b := []) hq []
  have k4 := congrArg List.length k3
  first
    | with_reducible exact absurd k3 p1
    | with_reducible exact absurd k2 p1
    | with_reducible exact absurd k1 p1
    | omega
    | with_reducible contradiction
    | with_reducible exact absurd rfl (by assumption)
    | (simp only [List.length_nil] at *; omega)
theorem vcfrx_2 : VD TTfrx (st0 cFr2) wfrx_2 := by
  intro ρ kn hp
  exact all_nil
theorem vcfrx_3 : VD TTfrx (st0 cFr2) wfrx_3 := by
  intro ρ kn hp
  have hF : ρ.z.F = oct.Φ := kn.F
  simp only [h_nil, h_cons, d_le, d_eq, d_not, d_var, d_lit, d_cel, d_leq, d_fn, d_and, d_iff, IE.den, LE.den, AL.den, lenV, true_and, and_true, pcfrx_5, pcfrx_4, pcfrx_2, pcfrx_1, pcfrx_0, hF, pi2, pi3, pi4, pi5, pi6, pi7, pi20, pl1, pi21, pi22, pl2, cE, cN, cV, cO, cM, sum_in, List.map_cons, List.map_nil, AV.cell, four_qs] at hp
  obtain ⟨p1, p2, p3, p4, p5, p6, p7, p8, p9, p10, p11⟩ := hp
  exfalso
  have hT : Typed byteK (ρ.z.rl 0) := kn.rom 0 _ _ rfl
  have hT1 : Typed byteK (ρ.z.rl 1) := kn.rom 1 _ _ rfl
  have e3 : (ρ.z.rl 0).take (0 : Int).toNat = [] := rfl
  have e4 : (ρ.z.rl 1).take (0 : Int).toNat = [] := rfl
  have e5 : ∀ x : LV, (x ++ []) ++ List.drop ((x.length : Int)).toNat x = x ++ [] := fun x => by simp
  try simp only [e3] at *
  try simp only [e4] at *
  try simp only [pl3t typed_nil] at *
  try simp only [e5] at *
  try simp only [pl5t (app_typed (seal_typed typed_nil) typed_nil)] at *
  have hq : (([] : LV).length : Int) ≤ 65536 := by first | omega | decide
  obtain ⟨k1, k2, k3⟩ := open_back (b := []) hq []
  have k4 := congrArg List.length k3
  first
    | with_reducible exact absurd k3 p1
    | with_reducible exact absurd k2 p1
    | with_reducible exact absurd k1 p1
    | omega
    | with_reducible contradiction
    | with_reducible exact absurd rfl (by assumption)
    | (simp only [List.length_nil] at *; omega)
theorem vcfrx_4 : VD TTfrx (st0 cFr2) wfrx_4 := by
  intro ρ kn hp
  have hF : ρ.z.F = oct.Φ := kn.F
  simp only [h_nil, h_cons, d_le, d_eq, d_not, d_var, d_lit, d_cel, d_leq, d_fn, d_and, d_iff, IE.den, LE.den, AL.den, lenV, true_and, and_true, pcfrx_4, pcfrx_2, pcfrx_1, pcfrx_0, hF, pi2, pi3, pi4, pi5, pi6, pi7, pi20, pl1, pi21, pi22, pl2, cE, cN, cV, cO, cM, sum_in, List.map_cons, List.map_nil, AV.cell, four_qs] at hp
  obtain ⟨p1, p2, p3, p4, p5, p6, p7, p8, p9, p10⟩ := hp
  exfalso
  have hT : Typed byteK (ρ.z.rl 0) := kn.rom 0 _ _ rfl
  have hT1 : Typed byteK (ρ.z.rl 1) := kn.rom 1 _ _ rfl
  have e3 : (ρ.z.rl 0).take (0 : Int).toNat = [] := rfl
  have e4 : (ρ.z.rl 1).take (0 : Int).toNat = [] := rfl
  have e5 : ∀ x : LV, (x ++ []) ++ List.drop ((x.length : Int)).toNat x = x ++ [] := fun x => by simp
  try simp only [e3] at *
  try simp only [e4] at *
  try simp only [pl3t typed_nil] at *
  try simp only [e5] at *
  try simp only [pl5t (app_typed (seal_typed typed_nil) typed_nil)] at *
  have hq : (([] : LV).length : Int) ≤ 65536 := by first | omega | decide
  obtain ⟨k1, k2, k3⟩ := open_back (b := []) hq []
  have k4 := congrArg List.length k3
  first
    | with_reducible exact absurd k3 p1
    | with_reducible exact absurd k2 p1
    | with_reducible exact absurd k1 p1
    | omega
    | with_reducible contradiction
    | with_reducible exact absurd rfl (by assumption)
    | (simp only [List.length_nil] at *; omega)
theorem vcfrx_5 : VD TTfrx (st0 cFr2) wfrx_5 := by
  intro ρ kn hp
  have hF : ρ.z.F = oct.Φ := kn.F
  simp only [h_nil, h_cons, d_le, d_eq, d_not, d_var, d_lit, d_cel, d_leq, d_fn, d_and, d_iff, IE.den, LE.den, AL.den, lenV, true_and, and_true, pcfrx_1, pcfrx_0, hF, pi2, pi3, pi4, pi5, pi6, pi7, pi20, pl1, pi21, pi22, pl2, cE, cN, cV, cO, cM, sum_in, List.map_cons, List.map_nil, AV.cell, four_qs] at hp
  obtain ⟨p1, p2, p3, p4, p5, p6⟩ := hp
  exfalso
  have hT : Typed byteK (ρ.z.rl 0) := kn.rom 0 _ _ rfl
  have hT1 : Typed byteK (ρ.z.rl 1) := kn.rom 1 _ _ rfl
  have e3 : (ρ.z.rl 0).take (0 : Int).toNat = [] := rfl
  have e4 : (ρ.z.rl 1).take (0 : Int).toNat = [] := rfl
  have e5 : ∀ x : LV, (x ++ []) ++ List.drop ((x.length : Int)).toNat x = x ++ [] := fun x => by simp
  try simp only [e3] at *
  try simp only [e4] at *
  try simp only [pl3t typed_nil] at *
  try simp only [e5] at *
  try simp only [pl5t (app_typed (seal_typed typed_nil) typed_nil)] at *
  have hq : (([] : LV).length : Int) ≤ 65536 := by first | omega | decide
  obtain ⟨k1, k2, k3⟩ := open_back (b := []) hq []
  have k4 := congrArg List.length k3
  first
    | with_reducible exact absurd k3 p1
    | with_reducible exact absurd k2 p1
    | with_reducible exact absurd k1 p1
    | omega
    | with_reducible contradiction
    | with_reducible exact absurd rfl (by assumption)
    | (simp only [List.length_nil] at *; omega)
theorem vcfrx_6 : VD TTfrx (st0 cFr2) wfrx_6 := by
  intro ρ kn hp
  have hF : ρ.z.F = oct.Φ := kn.F
  simp only [h_nil, h_cons, d_le, d_eq, d_not, d_var, d_lit, d_cel, d_leq, d_fn, d_and, d_iff, IE.den, LE.den, AL.den, lenV, true_and, and_true, pcfrx_0, hF, pi2, pi3, pi4, pi5, pi6, pi7, pi20, pl1, pi21, pi22, pl2, cE, cN, cV, cO, cM, sum_in, List.map_cons, List.map_nil, AV.cell, four_qs] at hp
  obtain ⟨p1, p2, p3, p4, p5⟩ := hp
  exfalso
  have hT : Typed byteK (ρ.z.rl 0) := kn.rom 0 _ _ rfl
  have hT1 : Typed byteK (ρ.z.rl 1) := kn.rom 1 _ _ rfl
  have e3 : (ρ.z.rl 0).take (0 : Int).toNat = [] := rfl
  have e4 : (ρ.z.rl 1).take (0 : Int).toNat = [] := rfl
  have e5 : ∀ x : LV, (x ++ []) ++ List.drop ((x.length : Int)).toNat x = x ++ [] := fun x => by simp
  try simp only [e3] at *
  try simp only [e4] at *
  try simp only [pl3t typed_nil] at *
  try simp only [e5] at *
  try simp only [pl5t (app_typed (seal_typed typed_nil) typed_nil)] at *
  have hq : (([] : LV).length : Int) ≤ 65536 := by first | omega | decide
  obtain ⟨k1, k2, k3⟩ := open_back (b := []) hq []
  have k4 := congrArg List.length k3
  first
    | with_reducible exact absurd k3 p1
    | with_reducible exact absurd k2 p1
    | with_reducible exact absurd k1 p1
    | omega
    | with_reducible contradiction
    | with_reducible exact absurd rfl (by assumption)
    | (simp only [List.length_nil] at *; omega)
theorem told_frx : Sx.Told oct.Φ cFr2 := told_vw (cs := [cWorks, cRRead, cRSum, cOpenNo, cOpenZ, cOpenY, cSeal, cRSeal, cSealX, cRSealX, cSealNil, cOpenNil]) (all_cons told_works (all_cons told_rread (all_cons told_rsum (all_cons told_opno (all_cons told_opz (all_cons told_opy (all_cons told_seal (all_cons told_rseal (all_cons told_sealx (all_cons told_rsealx (all_cons told_sealnil (all_cons told_opnil (all_nil))))))))))))) 9000 vwfrx (by kernel_rfl) (by kernel_rfl) (by kernel_rfl) (post_nil rfl) (by kernel_rfl) (by kernel_rfl) (all_cons vcfrx_0 (all_cons vcfrx_1 (all_cons vcfrx_2 (all_cons vcfrx_3 (all_cons vcfrx_4 (all_cons vcfrx_5 (all_cons vcfrx_6 (all_nil))))))))
end Go.Proofs.Ythbnjmmkjpoahaa.oct
