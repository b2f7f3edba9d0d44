/- Layer call: the asks that the program tries. No condition. -/
import Derived.Test.YthenenacmiiphaaCi
import Derived.Test.YthenenacmiiphaaDa
set_option linter.unusedVariables false
set_option linter.unusedSimpArgs false
set_option linter.deprecated false
namespace Go.Proofs.Ythenenacmiiphaa.oct
open Go Go.Proofs.Ythenenacmiiphaa.Sx
noncomputable section
abbrev TTworks19 : Tab := T oct.Φ cWorks19.roms [cShp, cShpN, cNumber]
def pcworks19_0 : List BE := [(BE.lit true)]
def pcworks19_1 : List BE := ((BE.le (IE.lit 1) (IE.len (LE.fn 1 (AL.int .u64 (IE.lit 0) AL.nil)))) :: (BE.le (IE.len (LE.fn 1 (AL.int .u64 (IE.lit 0) AL.nil))) (IE.lit 10)) :: (BE.le (IE.lit 1) (IE.len (LE.fn 1 (AL.int .u64 (IE.lit 0) AL.nil)))) :: (BE.le (IE.len (LE.fn 1 (AL.int .u64 (IE.lit 0) AL.nil))) (IE.lit 10)) :: (BE.le (IE.lit 1) (IE.len (LE.fn 1 (AL.int .u64 (IE.lit 0) AL.nil)))) :: (BE.le (IE.len (LE.fn 1 (AL.int .u64 (IE.lit 0) AL.nil))) (IE.lit 10)) :: (BE.le (IE.lit 1) (IE.len (LE.fn 1 (AL.int .u64 (IE.lit 0) AL.nil)))) :: (BE.le (IE.len (LE.fn 1 (AL.int .u64 (IE.lit 0) AL.nil))) (IE.lit 10)) :: (BE.le (IE.lit 1) (IE.len (LE.fn 1 (AL.int .u64 (IE.lit 0) AL.nil)))) :: (BE.le (IE.len (LE.fn 1 (AL.int .u64 (IE.lit 0) AL.nil))) (IE.lit 10)) :: (BE.le (IE.lit 1) (IE.len (LE.fn 1 (AL.int .u64 (IE.lit 3) AL.nil)))) :: (BE.le (IE.len (LE.fn 1 (AL.int .u64 (IE.lit 3) AL.nil))) (IE.lit 10)) :: (BE.le (IE.lit 1) (IE.len (LE.fn 1 (AL.int .u64 (IE.lit 3) AL.nil)))) :: (BE.le (IE.len (LE.fn 1 (AL.int .u64 (IE.lit 3) AL.nil))) (IE.lit 10)) :: (BE.le (IE.lit 1) (IE.len (LE.fn 1 (AL.int .u64 (IE.lit 1) AL.nil)))) :: (BE.le (IE.len (LE.fn 1 (AL.int .u64 (IE.lit 1) AL.nil))) (IE.lit 10)) :: (BE.le (IE.lit 1) (IE.len (LE.fn 1 (AL.int .u64 (IE.lit 0) AL.nil)))) :: (BE.le (IE.len (LE.fn 1 (AL.int .u64 (IE.lit 0) AL.nil))) (IE.lit 10)) :: (BE.le (IE.lit 1) (IE.len (LE.fn 1 (AL.int .u64 (IE.lit 7) AL.nil)))) :: (BE.le (IE.len (LE.fn 1 (AL.int .u64 (IE.lit 7) AL.nil))) (IE.lit 10)) :: (BE.le (IE.lit 1) (IE.len (LE.fn 1 (AL.int .u64 (IE.lit 9) AL.nil)))) :: (BE.le (IE.len (LE.fn 1 (AL.int .u64 (IE.lit 9) AL.nil))) (IE.lit 10)) :: (BE.le (IE.lit 1) (IE.len (LE.fn 1 (AL.int .u64 (IE.lit 2) AL.nil)))) :: (BE.le (IE.len (LE.fn 1 (AL.int .u64 (IE.lit 2) AL.nil))) (IE.lit 10)) :: (BE.le (IE.lit 1) (IE.len (LE.fn 1 (AL.int .u64 (IE.lit 3) AL.nil)))) :: (BE.le (IE.len (LE.fn 1 (AL.int .u64 (IE.lit 3) AL.nil))) (IE.lit 10)) :: (BE.le (IE.lit 1) (IE.len (LE.fn 1 (AL.int .u64 (IE.lit 1) AL.nil)))) :: (BE.le (IE.len (LE.fn 1 (AL.int .u64 (IE.lit 1) AL.nil))) (IE.lit 10)) :: (BE.le (IE.lit 1) (IE.len (LE.fn 1 (AL.int .u64 (IE.lit 1) AL.nil)))) :: (BE.le (IE.len (LE.fn 1 (AL.int .u64 (IE.lit 1) AL.nil))) (IE.lit 10)) :: (BE.fn 10 (AL.int .i64 (IE.lit 2) (AL.int .i64 (IE.lit 2) (AL.int .i64 (IE.lit 2) AL.nil)))) :: pcworks19_0)
def pcworks19_2 : List BE := ((BE.leq (LE.cat (LE.cat (LE.cat (LE.cat (LE.fn 1 (AL.int .u64 (IE.lit 1) AL.nil)) (LE.fn 1 (AL.int .u64 (IE.lit 1) AL.nil))) (LE.fn 1 (AL.int .u64 (IE.lit 3) AL.nil))) (LE.fn 1 (AL.int .u64 (IE.lit 2) AL.nil))) (LE.fn 1 (AL.int .u64 (IE.lit 9) AL.nil))) (LE.cat (LE.one (AL.int .u8 (IE.lit 1) AL.nil)) (LE.cat (LE.one (AL.int .u8 (IE.lit 1) AL.nil)) (LE.cat (LE.one (AL.int .u8 (IE.lit 3) AL.nil)) (LE.cat (LE.one (AL.int .u8 (IE.lit 2) AL.nil)) (LE.one (AL.int .u8 (IE.lit 9) AL.nil))))))) :: pcworks19_1)
def wworks19_0 : VW := (VW.done ((BE.leq (LE.cat (LE.cat (LE.cat (LE.cat (LE.fn 1 (AL.int .u64 (IE.lit 7) AL.nil)) (LE.fn 1 (AL.int .u64 (IE.lit 0) AL.nil))) (LE.fn 1 (AL.int .u64 (IE.lit 1) AL.nil))) (LE.fn 1 (AL.int .u64 (IE.lit 3) AL.nil))) (LE.fn 1 (AL.int .u64 (IE.lit 3) AL.nil))) (LE.cat (LE.one (AL.int .u8 (IE.lit 7) AL.nil)) (LE.cat (LE.one (AL.int .u8 (IE.lit 0) AL.nil)) (LE.cat (LE.one (AL.int .u8 (IE.lit 1) AL.nil)) (LE.cat (LE.one (AL.int .u8 (IE.lit 3) AL.nil)) (LE.one (AL.int .u8 (IE.lit 3) AL.nil))))))) :: pcworks19_2) (some [(G.b (BE.lit true) (BE.leq (LE.cat (LE.cat (LE.cat (LE.cat (LE.fn 1 (AL.int .u64 (IE.lit 0) AL.nil)) (LE.fn 1 (AL.int .u64 (IE.lit 0) AL.nil))) (LE.fn 1 (AL.int .u64 (IE.lit 0) AL.nil))) (LE.fn 1 (AL.int .u64 (IE.lit 0) AL.nil))) (LE.fn 1 (AL.int .u64 (IE.lit 0) AL.nil))) (LE.cat (LE.one (AL.int .u8 (IE.lit 0) AL.nil)) (LE.cat (LE.one (AL.int .u8 (IE.lit 0) AL.nil)) (LE.cat (LE.one (AL.int .u8 (IE.lit 0) AL.nil)) (LE.cat (LE.one (AL.int .u8 (IE.lit 0) AL.nil)) (LE.one (AL.int .u8 (IE.lit 0) AL.nil))))))))]))
def wworks19_1 : VW := (VW.done ((BE.not (BE.leq (LE.cat (LE.cat (LE.cat (LE.cat (LE.fn 1 (AL.int .u64 (IE.lit 7) AL.nil)) (LE.fn 1 (AL.int .u64 (IE.lit 0) AL.nil))) (LE.fn 1 (AL.int .u64 (IE.lit 1) AL.nil))) (LE.fn 1 (AL.int .u64 (IE.lit 3) AL.nil))) (LE.fn 1 (AL.int .u64 (IE.lit 3) AL.nil))) (LE.cat (LE.one (AL.int .u8 (IE.lit 7) AL.nil)) (LE.cat (LE.one (AL.int .u8 (IE.lit 0) AL.nil)) (LE.cat (LE.one (AL.int .u8 (IE.lit 1) AL.nil)) (LE.cat (LE.one (AL.int .u8 (IE.lit 3) AL.nil)) (LE.one (AL.int .u8 (IE.lit 3) AL.nil)))))))) :: pcworks19_2) (some [(G.b (BE.lit true) (BE.lit false))]))
def wworks19_2 : VW := (VW.done ((BE.not (BE.leq (LE.cat (LE.cat (LE.cat (LE.cat (LE.fn 1 (AL.int .u64 (IE.lit 1) AL.nil)) (LE.fn 1 (AL.int .u64 (IE.lit 1) AL.nil))) (LE.fn 1 (AL.int .u64 (IE.lit 3) AL.nil))) (LE.fn 1 (AL.int .u64 (IE.lit 2) AL.nil))) (LE.fn 1 (AL.int .u64 (IE.lit 9) AL.nil))) (LE.cat (LE.one (AL.int .u8 (IE.lit 1) AL.nil)) (LE.cat (LE.one (AL.int .u8 (IE.lit 1) AL.nil)) (LE.cat (LE.one (AL.int .u8 (IE.lit 3) AL.nil)) (LE.cat (LE.one (AL.int .u8 (IE.lit 2) AL.nil)) (LE.one (AL.int .u8 (IE.lit 9) AL.nil)))))))) :: pcworks19_1) (some [(G.b (BE.lit true) (BE.lit false))]))
def wworks19_3 : VW := (VW.done ((BE.not (BE.fn 10 (AL.int .i64 (IE.lit 2) (AL.int .i64 (IE.lit 2) (AL.int .i64 (IE.lit 2) AL.nil))))) :: pcworks19_0) (some [(G.b (BE.lit true) (BE.lit false))]))
def vwworks19 : List VW := [wworks19_0, wworks19_1, wworks19_2, wworks19_3]
end
theorem vcworks19_0 : VD TTworks19 (st0 cWorks19) wworks19_0 := by
 intro ρ kn hp
 have hF : ρ.z.F = oct.Φ := kn.F
 simp only [h_nil, h_cons, d_le, d_eq, d_not, d_var, d_lit, d_cel, d_leq, d_fn, d_and, d_iff, IE.den, LE.den, AL.den, lenV, true_and, and_true, pcworks19_2, pcworks19_1, pcworks19_0, hF, pi2, pi3, pi4, pi5, pi6, pi7, pl1, pb10, pb11, pb12, pl7, pl9] at hp
 obtain ⟨p1, p2, p3, p4, p5, p6, p7, p8, p9, p10, p11, p12, p13, p14, p15, p16, p17, p18, p19, p20, p21, p22, p23, p24, p25, p26, p27, p28, p29, p30, p31, p32, p33⟩ := hp
 refine all_cons (show true = (eqV (((((ρ.z.F.l 1 [.int .u64 (0 : Int)]) ++ (ρ.z.F.l 1 [.int .u64 (0 : Int)])) ++ (ρ.z.F.l 1 [.int .u64 (0 : Int)])) ++ (ρ.z.F.l 1 [.int .u64 (0 : Int)])) ++ (ρ.z.F.l 1 [.int .u64 (0 : Int)])) (([[Go.Value.int .u8 (0 : Int)]] : LV) ++ (([[Go.Value.int .u8 (0 : Int)]] : LV) ++ (([[Go.Value.int .u8 (0 : Int)]] : LV) ++ (([[Go.Value.int .u8 (0 : Int)]] : LV) ++ ([[Go.Value.int .u8 (0 : Int)]] : LV)))))) from ?_) (all_nil)
 all_goals try simp only [hF, pi2, pi3, pi4, pi5, pi6, pi7, pl1, pb10, pb11, pb12, pl7, pl9]
 simp only [num_1 0 (by omega), num_1 1 (by omega), num_1 2 (by omega), num_1 3 (by omega), num_1 7 (by omega), num_1 9 (by omega)] at *
 exact (eqV_t rfl).symm
theorem vcworks19_1 : VD TTworks19 (st0 cWorks19) wworks19_1 := by
 intro ρ kn hp
 have hF : ρ.z.F = oct.Φ := kn.F
 simp only [h_nil, h_cons, d_le, d_eq, d_not, d_var, d_lit, d_cel, d_leq, d_fn, d_and, d_iff, IE.den, LE.den, AL.den, lenV, true_and, and_true, pcworks19_2, pcworks19_1, pcworks19_0, hF, pi2, pi3, pi4, pi5, pi6, pi7, pl1, pb10, pb11, pb12, pl7, pl9] at hp
 obtain ⟨p1, p2, p3, p4, p5, p6, p7, p8, p9, p10, p11, p12, p13, p14, p15, p16, p17, p18, p19, p20, p21, p22, p23, p24, p25, p26, p27, p28, p29, p30, p31, p32, p33⟩ := hp
 exfalso
 simp only [num_1 0 (by omega), num_1 1 (by omega), num_1 2 (by omega), num_1 3 (by omega), num_1 7 (by omega), num_1 9 (by omega)] at *
 first | exact (p1 rfl).elim | exact (p2 rfl).elim
theorem vcworks19_2 : VD TTworks19 (st0 cWorks19) wworks19_2 := by
 intro ρ kn hp
 have hF : ρ.z.F = oct.Φ := kn.F
 simp only [h_nil, h_cons, d_le, d_eq, d_not, d_var, d_lit, d_cel, d_leq, d_fn, d_and, d_iff, IE.den, LE.den, AL.den, lenV, true_and, and_true, pcworks19_1, pcworks19_0, hF, pi2, pi3, pi4, pi5, pi6, pi7, pl1, pb10, pb11, pb12, pl7, pl9] at hp
 obtain ⟨p1, p2, p3, p4, p5, p6, p7, p8, p9, p10, p11, p12, p13, p14, p15, p16, p17, p18, p19, p20, p21, p22, p23, p24, p25, p26, p27, p28, p29, p30, p31, p32⟩ := hp
 exfalso
 simp only [num_1 0 (by omega), num_1 1 (by omega), num_1 2 (by omega), num_1 3 (by omega), num_1 7 (by omega), num_1 9 (by omega)] at *
 first | exact (p1 rfl).elim | exact (p2 rfl).elim
theorem vcworks19_3 : VD TTworks19 (st0 cWorks19) wworks19_3 := by
 intro ρ kn hp
 have hF : ρ.z.F = oct.Φ := kn.F
 simp only [h_nil, h_cons, d_le, d_eq, d_not, d_var, d_lit, d_cel, d_leq, d_fn, d_and, d_iff, IE.den, LE.den, AL.den, lenV, true_and, and_true, pcworks19_0, hF, pi2, pi3, pi4, pi5, pi6, pi7, pl1, pb10, pb11, pb12, pl7, pl9] at hp
 have p1 := hp
 exfalso
 exact p1 (by unfold shpR; decide)
theorem told_works19 : Sx.Told oct.Φ cWorks19 := told_vw (cs := [cShp, cShpN, cNumber]) (all_cons told_shp (all_cons told_shpn (all_cons told_number (all_nil)))) 60000 vwworks19 (by kernel_rfl) (by kernel_rfl) (by kernel_rfl) (post_nil rfl) (by kernel_rfl) (by kernel_rfl) (all_cons vcworks19_0 (all_cons vcworks19_1 (all_cons vcworks19_2 (all_cons vcworks19_3 (all_nil)))))
end Go.Proofs.Ythenenacmiiphaa.oct
