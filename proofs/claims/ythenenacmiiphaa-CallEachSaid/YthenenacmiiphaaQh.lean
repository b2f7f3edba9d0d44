/- Layer octet: signed numbers, told. No condition. -/
import Derived.Test.YthenenacmiiphaaQi
set_option linter.unusedVariables false
set_option linter.unusedSimpArgs false
set_option linter.deprecated false
namespace Go.Proofs.Ythenenacmiiphaa.oct
open Go Go.Proofs.Ythenenacmiiphaa.Sx
noncomputable section
abbrev TTsread : Tab := T oct.Φ cSRead.roms [cRead]
def wsread_0 : VW := (VW.done [(BE.le (IE.lit 0) (IE.fn .i64 4 (AL.lst (LE.rom 0) AL.nil))), (BE.le (IE.fn .i64 4 (AL.lst (LE.rom 0) AL.nil)) (IE.len (LE.rom 0))), (BE.lit true)] (some [(G.i (IE.fn .i64 6 (AL.int .u64 (IE.fn .u64 3 (AL.lst (LE.rom 0) AL.nil)) AL.nil)) (IE.bin BinOp.xor .i64 (IE.wrap .i64 (IE.bin BinOp.shr .u64 (IE.fn .u64 3 (AL.lst (LE.rom 0) AL.nil)) (IE.lit 1))) (IE.sub (IE.lit 0) (IE.bin BinOp.and .u64 (IE.fn .u64 3 (AL.lst (LE.rom 0) AL.nil)) (IE.lit 1)))))]))
def vwsread : List VW := [wsread_0]
end
theorem vcsread_0 : VD TTsread (st0 cSRead) wsread_0 := by
 intro ρ kn hp
 have hF : ρ.z.F = oct.Φ := kn.F
 simp only [h_nil, h_cons, d_le, d_eq, d_not, d_var, d_lit, d_cel, d_leq, d_fn, d_and, d_iff, IE.den, LE.den, AL.den, lenV, true_and, and_true, hF, pi2, pi3, pi4, pi5, pi6, pi7] at hp
 obtain ⟨p1, p2⟩ := hp
 refine all_cons (show (clampK .i64 (ρ.z.F.i 6 [.int .u64 (clampK .u64 (ρ.z.F.i 3 [.lst (ρ.z.rl 0)]))])) = (binI BinOp.xor .i64 (IntKind.wrap .i64 (binI BinOp.shr .u64 (clampK .u64 (ρ.z.F.i 3 [.lst (ρ.z.rl 0)])) (1 : Int))) ((0 : Int) - (binI BinOp.and .u64 (clampK .u64 (ρ.z.F.i 3 [.lst (ρ.z.rl 0)])) (1 : Int)))) from ?_) (all_nil)
 all_goals try simp only [hF, pi2, pi3, pi4, pi5, pi6, pi7]
 have hr := rd_rng (ρ.z.rl 0)
 rw [half_in hr.1 hr.2]
 exact (xor_half hr.1 hr.2).symm
theorem told_sread : Sx.Told oct.Φ cSRead := told_vw (cs := [cRead]) (all_cons told_read (all_nil)) 900 vwsread (by kernel_rfl) (by kernel_rfl) (by kernel_rfl) post_sread (by kernel_rfl) (by kernel_rfl) (all_cons vcsread_0 (all_nil))
noncomputable section
abbrev TTrsread : Tab := T oct.Φ cRSRead.roms [cRRead]
abbrev ersreadx0 : IE := IE.fn .u64 3 (AL.lst (LE.rom 0) AL.nil)
abbrev pcrsread_0 : List BE := [(BE.le (IE.lit 0) (IE.fn .i64 4 (AL.lst (LE.rom 0) AL.nil))), (BE.le (IE.fn .i64 4 (AL.lst (LE.rom 0) AL.nil)) (IE.len (LE.rom 0))), (BE.lit true)]
abbrev pcrsread_1 : List BE := ((BE.eq (IE.fn .i64 5 (AL.lst (LE.rom 0) AL.nil)) (IE.lit 0)) :: pcrsread_0)
def wrsread_0 : VW := (VW.done ((BE.eq (IE.bin BinOp.rem .u64 ersreadx0 (IE.lit 2)) (IE.lit 1)) :: pcrsread_1) (some [(G.i (IE.fn .i64 6 (AL.int .u64 ersreadx0 AL.nil)) (IE.sub (IE.lit (-1)) (IE.wrap .i64 (IE.bin BinOp.quo .u64 ersreadx0 (IE.lit 2)))))]))
def wrsread_1 : VW := (VW.done ((BE.not (BE.eq (IE.bin BinOp.rem .u64 ersreadx0 (IE.lit 2)) (IE.lit 1))) :: pcrsread_1) (some [(G.i (IE.fn .i64 6 (AL.int .u64 ersreadx0 AL.nil)) (IE.wrap .i64 (IE.bin BinOp.quo .u64 ersreadx0 (IE.lit 2))))]))
def wrsread_2 : VW := (VW.done ((BE.not (BE.eq (IE.fn .i64 5 (AL.lst (LE.rom 0) AL.nil)) (IE.lit 0))) :: pcrsread_0) (some [(G.i (IE.fn .i64 6 (AL.int .u64 ersreadx0 AL.nil)) (IE.lit 0)), (G.i (IE.fn .i64 4 (AL.lst (LE.rom 0) AL.nil)) (IE.lit 0))]))
def vwrsread : List VW := [wrsread_0, wrsread_1, wrsread_2]
end
theorem vcrsread_0 : VD TTrsread (st0 cRSRead) wrsread_0 := by
 intro ρ kn hp
 have hF : ρ.z.F = oct.Φ := kn.F
 simp only [h_nil, h_cons, d_le, d_eq, d_not, d_var, d_lit, d_cel, d_leq, d_fn, d_and, d_iff, IE.den, LE.den, AL.den, lenV, true_and, and_true, hF, pi2, pi3, pi4, pi5, pi6, pi7] at hp
 obtain ⟨p1, p2, p3, p4⟩ := hp
 refine all_cons (show (clampK .i64 (ρ.z.F.i 6 [.int .u64 (clampK .u64 (ρ.z.F.i 3 [.lst (ρ.z.rl 0)]))])) = ((-1 : Int) - (IntKind.wrap .i64 (binI BinOp.quo .u64 (clampK .u64 (ρ.z.F.i 3 [.lst (ρ.z.rl 0)])) (2 : Int)))) from ?_) (all_nil)
 all_goals try simp only [hF, pi2, pi3, pi4, pi5, pi6, pi7]
 have hr := rd_rng (ρ.z.rl 0)
 rw [half_in hr.1 hr.2]
 have m : binI .rem .u64 (clampK .u64 (rdV (ρ.z.rl 0))) 2 = clampK .u64 (rdV (ρ.z.rl 0)) % 2 := Int.tmod_eq_emod_of_nonneg hr.1
 have q : binI .quo .u64 (clampK .u64 (rdV (ρ.z.rl 0))) 2 = clampK .u64 (rdV (ρ.z.rl 0)) / 2 := by
  show IntKind.wrap .u64 (Int.tdiv _ 2) = _
  rw [Int.tdiv_eq_ediv_of_nonneg hr.1, wrap64u]; omega
 rw [m] at p1
 rw [q, wrap64i _ (by omega) (by omega), if_pos (by omega), halfN, if_pos p1]
theorem vcrsread_1 : VD TTrsread (st0 cRSRead) wrsread_1 := by
 intro ρ kn hp
 have hF : ρ.z.F = oct.Φ := kn.F
 simp only [h_nil, h_cons, d_le, d_eq, d_not, d_var, d_lit, d_cel, d_leq, d_fn, d_and, d_iff, IE.den, LE.den, AL.den, lenV, true_and, and_true, hF, pi2, pi3, pi4, pi5, pi6, pi7] at hp
 obtain ⟨p1, p2, p3, p4⟩ := hp
 refine all_cons (show (clampK .i64 (ρ.z.F.i 6 [.int .u64 (clampK .u64 (ρ.z.F.i 3 [.lst (ρ.z.rl 0)]))])) = (IntKind.wrap .i64 (binI BinOp.quo .u64 (clampK .u64 (ρ.z.F.i 3 [.lst (ρ.z.rl 0)])) (2 : Int))) from ?_) (all_nil)
 all_goals try simp only [hF, pi2, pi3, pi4, pi5, pi6, pi7]
 have hr := rd_rng (ρ.z.rl 0)
 rw [half_in hr.1 hr.2]
 have m : binI .rem .u64 (clampK .u64 (rdV (ρ.z.rl 0))) 2 = clampK .u64 (rdV (ρ.z.rl 0)) % 2 := Int.tmod_eq_emod_of_nonneg hr.1
 have q : binI .quo .u64 (clampK .u64 (rdV (ρ.z.rl 0))) 2 = clampK .u64 (rdV (ρ.z.rl 0)) / 2 := by
  show IntKind.wrap .u64 (Int.tdiv _ 2) = _
  rw [Int.tdiv_eq_ediv_of_nonneg hr.1, wrap64u]; omega
 rw [m] at p1
 rw [q, wrap64i _ (by omega) (by omega), if_pos (by omega), halfN, if_neg p1]
theorem vcrsread_2 : VD TTrsread (st0 cRSRead) wrsread_2 := by
 intro ρ kn hp
 have hF : ρ.z.F = oct.Φ := kn.F
 simp only [h_nil, h_cons, d_le, d_eq, d_not, d_var, d_lit, d_cel, d_leq, d_fn, d_and, d_iff, IE.den, LE.den, AL.den, lenV, true_and, and_true, hF, pi2, pi3, pi4, pi5, pi6, pi7] at hp
 obtain ⟨p1, p2, p3⟩ := hp
 refine all_cons (show (clampK .i64 (ρ.z.F.i 6 [.int .u64 (clampK .u64 (ρ.z.F.i 3 [.lst (ρ.z.rl 0)]))])) = (0 : Int) from ?_) (all_cons (show (clampK .i64 (ρ.z.F.i 4 [.lst (ρ.z.rl 0)])) = (0 : Int) from ?_) (all_nil))
 all_goals try simp only [hF, pi2, pi3, pi4, pi5, pi6, pi7]
 all_goals
  obtain ⟨a, b⟩ := rd_none (R := ρ.z.rl 0) (by assumption)
  first | (rw [a]; rfl) | (rw [b]; rfl)
theorem told_rsread : Sx.Told oct.Φ cRSRead := told_vw (cs := [cRRead]) (all_cons told_rread (all_nil)) 900 vwrsread (by kernel_rfl) (by kernel_rfl) (by kernel_rfl) post_rsread (by kernel_rfl) (by kernel_rfl) (all_cons vcrsread_0 (all_cons vcrsread_1 (all_cons vcrsread_2 (all_nil))))
end Go.Proofs.Ythenenacmiiphaa.oct
