/- Layer seal: frames, told. No condition. -/
import Derived.Test.YthbnjmmkjpoahaaQs
import Derived.Test.YthbnjmmkjpoahaaQf
set_option linter.unusedVariables false
set_option linter.unusedSimpArgs false
set_option linter.deprecated false
namespace Go.Proofs.Ythbnjmmkjpoahaa.oct
open Go Go.Proofs.Ythbnjmmkjpoahaa.Sx
noncomputable section
abbrev TTrseal : Tab := T oct.Φ cRSeal.roms [cRNumber, cRSum]
def pcrseal_0 : List BE := [(BE.le (IE.lit 1) (IE.len (LE.fn 1 (AL.int .u64 (IE.len (LE.rom 0)) AL.nil)))), (BE.le (IE.len (LE.fn 1 (AL.int .u64 (IE.len (LE.rom 0)) AL.nil))) (IE.lit 10)), (BE.lit true), (BE.le (IE.len (LE.rom 0)) (IE.lit 65536))]
def wrseal_0 : VW := (VW.done ((BE.le (IE.add (IE.len (LE.fn 1 (AL.int .u64 (IE.len (LE.rom 0)) AL.nil))) (IE.len (LE.rom 0))) (IE.len (LE.fn 1 (AL.int .u64 (IE.len (LE.rom 0)) AL.nil)))) :: pcrseal_0) (some [(G.i (IE.len (LE.fn 3 (AL.lst (LE.rom 0) AL.nil))) (IE.add (IE.add (IE.len (LE.fn 1 (AL.int .u64 (IE.len (LE.rom 0)) AL.nil))) (IE.len (LE.rom 0))) (IE.lit 4))), (G.l (LE.fn 3 (AL.lst (LE.rom 0) AL.nil)) (LE.cat (LE.cat (LE.fn 1 (AL.int .u64 (IE.len (LE.rom 0)) AL.nil)) (LE.rom 0)) (LE.cat (LE.one (AL.int .u8 (IE.wrap .u8 (IE.bin BinOp.quo .u32 (IE.fn .u32 20 (AL.lst (LE.cat (LE.fn 1 (AL.int .u64 (IE.len (LE.rom 0)) AL.nil)) (LE.rom 0)) AL.nil)) (IE.lit 16777216))) AL.nil)) (LE.cat (LE.one (AL.int .u8 (IE.wrap .u8 (IE.bin BinOp.quo .u32 (IE.fn .u32 20 (AL.lst (LE.cat (LE.fn 1 (AL.int .u64 (IE.len (LE.rom 0)) AL.nil)) (LE.rom 0)) AL.nil)) (IE.lit 65536))) AL.nil)) (LE.cat (LE.one (AL.int .u8 (IE.wrap .u8 (IE.bin BinOp.quo .u32 (IE.fn .u32 20 (AL.lst (LE.cat (LE.fn 1 (AL.int .u64 (IE.len (LE.rom 0)) AL.nil)) (LE.rom 0)) AL.nil)) (IE.lit 256))) AL.nil)) (LE.one (AL.int .u8 (IE.wrap .u8 (IE.fn .u32 20 (AL.lst (LE.cat (LE.fn 1 (AL.int .u64 (IE.len (LE.rom 0)) AL.nil)) (LE.rom 0)) AL.nil))) AL.nil))))))), (G.i (IE.len (LE.fn 3 (AL.lst (LE.rom 0) AL.nil))) (IE.add (IE.add (IE.len (LE.fn 1 (AL.int .u64 (IE.len (LE.rom 0)) AL.nil))) (IE.len (LE.rom 0))) (IE.lit 4)))]))
def wrseal_1 : VW := (VW.done ((BE.not (BE.le (IE.add (IE.len (LE.fn 1 (AL.int .u64 (IE.len (LE.rom 0)) AL.nil))) (IE.len (LE.rom 0))) (IE.len (LE.fn 1 (AL.int .u64 (IE.len (LE.rom 0)) AL.nil))))) :: pcrseal_0) (some [(G.i (IE.len (LE.fn 3 (AL.lst (LE.rom 0) AL.nil))) (IE.add (IE.add (IE.len (LE.fn 1 (AL.int .u64 (IE.len (LE.rom 0)) AL.nil))) (IE.len (LE.rom 0))) (IE.lit 4))), (G.l (LE.fn 3 (AL.lst (LE.rom 0) AL.nil)) (LE.cat (LE.cat (LE.fn 1 (AL.int .u64 (IE.len (LE.rom 0)) AL.nil)) (LE.rom 0)) (LE.cat (LE.one (AL.int .u8 (IE.wrap .u8 (IE.bin BinOp.quo .u32 (IE.fn .u32 20 (AL.lst (LE.cat (LE.fn 1 (AL.int .u64 (IE.len (LE.rom 0)) AL.nil)) (LE.rom 0)) AL.nil)) (IE.lit 16777216))) AL.nil)) (LE.cat (LE.one (AL.int .u8 (IE.wrap .u8 (IE.bin BinOp.quo .u32 (IE.fn .u32 20 (AL.lst (LE.cat (LE.fn 1 (AL.int .u64 (IE.len (LE.rom 0)) AL.nil)) (LE.rom 0)) AL.nil)) (IE.lit 65536))) AL.nil)) (LE.cat (LE.one (AL.int .u8 (IE.wrap .u8 (IE.bin BinOp.quo .u32 (IE.fn .u32 20 (AL.lst (LE.cat (LE.fn 1 (AL.int .u64 (IE.len (LE.rom 0)) AL.nil)) (LE.rom 0)) AL.nil)) (IE.lit 256))) AL.nil)) (LE.one (AL.int .u8 (IE.wrap .u8 (IE.fn .u32 20 (AL.lst (LE.cat (LE.fn 1 (AL.int .u64 (IE.len (LE.rom 0)) AL.nil)) (LE.rom 0)) AL.nil))) AL.nil))))))), (G.i (IE.len (LE.fn 3 (AL.lst (LE.rom 0) AL.nil))) (IE.add (IE.add (IE.len (LE.fn 1 (AL.int .u64 (IE.len (LE.rom 0)) AL.nil))) (IE.len (LE.rom 0))) (IE.lit 4)))]))
def vwrseal : List VW := [wrseal_0, wrseal_1]
end
theorem vcrseal_0 : VD TTrseal (st0 cRSeal) wrseal_0 := by
  intro ρ kn hp
  have hF : ρ.z.F = oct.Φ := kn.F
  simp only [h_nil, h_cons, d_le, d_eq, d_not, d_var, d_lit, d_cel, d_leq, d_fn, d_and, d_iff, IE.den, LE.den, AL.den, lenV, true_and, and_true, pcrseal_0, hF, pi2, pi3, pi4, pi5, pi6, pi7, pi20, pl1] at hp
  obtain ⟨p1, p2, p3, p4⟩ := hp
  refine all_cons (show (((ρ.z.F.l 3 [.lst (ρ.z.rl 0)]).length : Nat) : Int) = (((((ρ.z.F.l 1 [.int .u64 (((ρ.z.rl 0).length : Nat) : Int)]).length : Nat) : Int) + (((ρ.z.rl 0).length : Nat) : Int)) + (4 : Int)) from ?_) (all_cons (show (ρ.z.F.l 3 [.lst (ρ.z.rl 0)]) = (((ρ.z.F.l 1 [.int .u64 (((ρ.z.rl 0).length : Nat) : Int)]) ++ (ρ.z.rl 0)) ++ (([[Go.Value.int .u8 (IntKind.wrap .u8 (binI BinOp.quo .u32 (clampK .u32 (ρ.z.F.i 20 [.lst ((ρ.z.F.l 1 [.int .u64 (((ρ.z.rl 0).length : Nat) : Int)]) ++ (ρ.z.rl 0))])) (16777216 : Int)))]] : LV) ++ (([[Go.Value.int .u8 (IntKind.wrap .u8 (binI BinOp.quo .u32 (clampK .u32 (ρ.z.F.i 20 [.lst ((ρ.z.F.l 1 [.int .u64 (((ρ.z.rl 0).length : Nat) : Int)]) ++ (ρ.z.rl 0))])) (65536 : Int)))]] : LV) ++ (([[Go.Value.int .u8 (IntKind.wrap .u8 (binI BinOp.quo .u32 (clampK .u32 (ρ.z.F.i 20 [.lst ((ρ.z.F.l 1 [.int .u64 (((ρ.z.rl 0).length : Nat) : Int)]) ++ (ρ.z.rl 0))])) (256 : Int)))]] : LV) ++ ([[Go.Value.int .u8 (IntKind.wrap .u8 (clampK .u32 (ρ.z.F.i 20 [.lst ((ρ.z.F.l 1 [.int .u64 (((ρ.z.rl 0).length : Nat) : Int)]) ++ (ρ.z.rl 0))])))]] : LV))))) from ?_) (all_cons (show (((ρ.z.F.l 3 [.lst (ρ.z.rl 0)]).length : Nat) : Int) = (((((ρ.z.F.l 1 [.int .u64 (((ρ.z.rl 0).length : Nat) : Int)]).length : Nat) : Int) + (((ρ.z.rl 0).length : Nat) : Int)) + (4 : Int)) from ?_) (all_nil)))
  all_goals try simp only [hF, pi2, pi3, pi4, pi5, pi6, pi7, pi20, pl1]
  all_goals
    have hT : Typed byteK (ρ.z.rl 0) := kn.rom 0 _ _ rfl
    have hs := seal_len (ρ.z.rl 0)
    simp only [pl3t hT]
    first
      | omega
      | (rw [sum_in, four_q (sum_rng _).1 (sum_rng _).2]; rfl)
theorem vcrseal_1 : VD TTrseal (st0 cRSeal) wrseal_1 := by
  intro ρ kn hp
  have hF : ρ.z.F = oct.Φ := kn.F
  simp only [h_nil, h_cons, d_le, d_eq, d_not, d_var, d_lit, d_cel, d_leq, d_fn, d_and, d_iff, IE.den, LE.den, AL.den, lenV, true_and, and_true, pcrseal_0, hF, pi2, pi3, pi4, pi5, pi6, pi7, pi20, pl1] at hp
  obtain ⟨p1, p2, p3, p4⟩ := hp
  refine all_cons (show (((ρ.z.F.l 3 [.lst (ρ.z.rl 0)]).length : Nat) : Int) = (((((ρ.z.F.l 1 [.int .u64 (((ρ.z.rl 0).length : Nat) : Int)]).length : Nat) : Int) + (((ρ.z.rl 0).length : Nat) : Int)) + (4 : Int)) from ?_) (all_cons (show (ρ.z.F.l 3 [.lst (ρ.z.rl 0)]) = (((ρ.z.F.l 1 [.int .u64 (((ρ.z.rl 0).length : Nat) : Int)]) ++ (ρ.z.rl 0)) ++ (([[Go.Value.int .u8 (IntKind.wrap .u8 (binI BinOp.quo .u32 (clampK .u32 (ρ.z.F.i 20 [.lst ((ρ.z.F.l 1 [.int .u64 (((ρ.z.rl 0).length : Nat) : Int)]) ++ (ρ.z.rl 0))])) (16777216 : Int)))]] : LV) ++ (([[Go.Value.int .u8 (IntKind.wrap .u8 (binI BinOp.quo .u32 (clampK .u32 (ρ.z.F.i 20 [.lst ((ρ.z.F.l 1 [.int .u64 (((ρ.z.rl 0).length : Nat) : Int)]) ++ (ρ.z.rl 0))])) (65536 : Int)))]] : LV) ++ (([[Go.Value.int .u8 (IntKind.wrap .u8 (binI BinOp.quo .u32 (clampK .u32 (ρ.z.F.i 20 [.lst ((ρ.z.F.l 1 [.int .u64 (((ρ.z.rl 0).length : Nat) : Int)]) ++ (ρ.z.rl 0))])) (256 : Int)))]] : LV) ++ ([[Go.Value.int .u8 (IntKind.wrap .u8 (clampK .u32 (ρ.z.F.i 20 [.lst ((ρ.z.F.l 1 [.int .u64 (((ρ.z.rl 0).length : Nat) : Int)]) ++ (ρ.z.rl 0))])))]] : LV))))) from ?_) (all_cons (show (((ρ.z.F.l 3 [.lst (ρ.z.rl 0)]).length : Nat) : Int) = (((((ρ.z.F.l 1 [.int .u64 (((ρ.z.rl 0).length : Nat) : Int)]).length : Nat) : Int) + (((ρ.z.rl 0).length : Nat) : Int)) + (4 : Int)) from ?_) (all_nil)))
  all_goals try simp only [hF, pi2, pi3, pi4, pi5, pi6, pi7, pi20, pl1]
  all_goals
    have hT : Typed byteK (ρ.z.rl 0) := kn.rom 0 _ _ rfl
    have hs := seal_len (ρ.z.rl 0)
    simp only [pl3t hT]
    first
      | omega
      | (rw [sum_in, four_q (sum_rng _).1 (sum_rng _).2]; rfl)
theorem told_rseal : Sx.Told oct.Φ cRSeal := told_vw (cs := [cRNumber, cRSum]) (all_cons told_rnumber (all_cons told_rsum (all_nil))) 900 vwrseal (by kernel_rfl) (by kernel_rfl) (by kernel_rfl) (post_se rfl) (by kernel_rfl) (by kernel_rfl) (all_cons vcrseal_0 (all_cons vcrseal_1 (all_nil)))
theorem told_sealx : Sx.Told oct.Φ cSealX := told_auto (cs := []) (all_nil) 900 (by kernel_rfl) (by kernel_rfl) (by kernel_rfl) (post_nil rfl) (by kernel_rfl) (by kernel_rfl)
theorem told_rsealx : Sx.Told oct.Φ cRSealX := told_auto (cs := []) (all_nil) 900 (by kernel_rfl) (by kernel_rfl) (by kernel_rfl) (post_nil rfl) (by kernel_rfl) (by kernel_rfl)
end Go.Proofs.Ythbnjmmkjpoahaa.oct
