/- Layer call: the law CallAnswers. No condition. -/
import Derived.Test.YthenenacmiiphaaCs
import Derived.Test.YthenenacmiiphaaDd
import Derived.Test.YthenenacmiiphaaDg
import Derived.Test.YthenenacmiiphaaCj
import Derived.Test.YthenenacmiiphaaCu
set_option linter.unusedVariables false
set_option linter.unusedSimpArgs false
set_option linter.deprecated false
namespace Go.Proofs.Ythenenacmiiphaa.oct
open Go Go.Proofs.Ythenenacmiiphaa.Sx
noncomputable section
abbrev TTlans : Tab := T oct.Φ cLAns.roms [cWorks19, cRgt, cRgtN, cRAns, cTold, cToldN, cRTold, cRToldN, cTl]
abbrev tlans1 : LE := LE.fn 9 (AL.int .i64 (IE.var .i64 4) (AL.int .i64 (IE.var .i64 5) (AL.int .i64 (IE.var .i64 6) (AL.int .i64 (IE.var .i64 7) (AL.int .i64 (IE.var .i64 8) AL.nil)))))
abbrev tlans2 : BE := BE.fn 12 (AL.int .i64 (IE.var .i64 1) (AL.int .i64 (IE.var .i64 2) (AL.int .i64 (IE.var .i64 3) (AL.int .i64 (IE.var .i64 4) (AL.int .i64 (IE.var .i64 5) (AL.int .i64 (IE.var .i64 6) (AL.int .i64 (IE.var .i64 7) AL.nil)))))))
abbrev tlans0 : AL := AL.int .i64 (IE.var .i64 1) (AL.int .i64 (IE.var .i64 2) (AL.int .i64 (IE.var .i64 3) (AL.lst (LE.cat tlans1 (LE.rom 0)) AL.nil)))
abbrev pclans_0 : List BE := [(BE.lit true), (BE.le (IE.lit 1) (IE.len (LE.rom 0)))]
abbrev pclans_1 : List BE := ((BE.le (IE.len (LE.rom 0)) (IE.lit 100)) :: pclans_0)
abbrev pclans_2 : List BE := ((BE.le (IE.lit 0) (IE.fn .i64 36 tlans0)) :: (BE.le (IE.fn .i64 36 tlans0) (IE.add (IE.len tlans1) (IE.len (LE.rom 0)))) :: (BE.le (IE.fn .i64 36 tlans0) (IE.lit 50)) :: (BE.le (IE.lit 1) (IE.len tlans1)) :: (BE.le (IE.len tlans1) (IE.lit 50)) :: (BE.le (IE.lit 1) (IE.len tlans1)) :: (BE.le (IE.len tlans1) (IE.lit 50)) :: tlans2 :: pclans_1)
abbrev pclans_3 : List BE := ((BE.eq (IE.fn .i64 31 tlans0) (IE.var .i64 4)) :: pclans_2)
abbrev pclans_4 : List BE := ((BE.eq (IE.fn .i64 32 tlans0) (IE.var .i64 5)) :: pclans_3)
abbrev pclans_5 : List BE := ((BE.eq (IE.fn .i64 33 tlans0) (IE.var .i64 6)) :: pclans_4)
abbrev pclans_6 : List BE := ((BE.eq (IE.fn .i64 34 tlans0) (IE.var .i64 7)) :: pclans_5)
abbrev pclans_7 : List BE := ((BE.eq (IE.fn .i64 35 tlans0) (IE.var .i64 8)) :: pclans_6)
abbrev pclans_8 : List BE := ((BE.eq (IE.fn .i64 36 tlans0) (IE.len tlans1)) :: pclans_7)
def wlans_0 : VW := (VW.done ((BE.eq (IE.fn .i64 30 tlans0) (IE.lit 0)) :: pclans_8) (some []))
def wlans_1 : VW := (VW.done ((BE.not (BE.eq (IE.fn .i64 30 tlans0) (IE.lit 0))) :: pclans_8) (some [(G.b (BE.lit true) (BE.lit false))]))
def wlans_2 : VW := (VW.done ((BE.not (BE.eq (IE.fn .i64 36 tlans0) (IE.len tlans1))) :: pclans_7) (some [(G.b (BE.lit true) (BE.lit false))]))
def wlans_3 : VW := (VW.done ((BE.not (BE.eq (IE.fn .i64 35 tlans0) (IE.var .i64 8))) :: pclans_6) (some [(G.b (BE.lit true) (BE.lit false))]))
def wlans_4 : VW := (VW.done ((BE.not (BE.eq (IE.fn .i64 34 tlans0) (IE.var .i64 7))) :: pclans_5) (some [(G.b (BE.lit true) (BE.lit false))]))
def wlans_5 : VW := (VW.done ((BE.not (BE.eq (IE.fn .i64 33 tlans0) (IE.var .i64 6))) :: pclans_4) (some [(G.b (BE.lit true) (BE.lit false))]))
def wlans_6 : VW := (VW.done ((BE.not (BE.eq (IE.fn .i64 32 tlans0) (IE.var .i64 5))) :: pclans_3) (some [(G.b (BE.lit true) (BE.lit false))]))
def wlans_7 : VW := (VW.done ((BE.not (BE.eq (IE.fn .i64 31 tlans0) (IE.var .i64 4))) :: pclans_2) (some [(G.b (BE.lit true) (BE.lit false))]))
def wlans_8 : VW := (VW.done ((BE.not tlans2) :: pclans_1) (some []))
def wlans_9 : VW := (VW.done ((BE.not (BE.le (IE.len (LE.rom 0)) (IE.lit 100))) :: pclans_0) (some []))
def vwlans : List VW := [wlans_0, wlans_1, wlans_2, wlans_3, wlans_4, wlans_5, wlans_6, wlans_7, wlans_8, wlans_9]
end
theorem vclans_0 : VD TTlans (st0 cLAns) wlans_0 := by
  intro ρ kn hp
  exact all_nil
theorem vclans_1 : VD TTlans (st0 cLAns) wlans_1 := by
  intro ρ kn hp
  have hF : ρ.z.F = oct.Φ := kn.F
  simp only [h_nil, h_cons, d_le, d_eq, d_not, d_var, d_lit, d_cel, d_leq, d_fn, d_and, d_iff, IE.den, LE.den, AL.den, lenV, true_and, and_true, hF, pb12, pl9, pr30, pr31, pr32, pr33, pr34, pr35, pr36] at hp
  obtain ⟨p1, p2, p3, p4, p5, p6, p7, p8, p9, p10, p11, p12, p13, p14, p15, p16, p17⟩ := hp
  exfalso
  have q0 : ansR (ρ.i .i64 1) (ρ.i .i64 2) (ρ.i .i64 3) (ρ.i .i64 4) (ρ.i .i64 5) (ρ.i .i64 6) (ρ.i .i64 7) = true := by assumption
  obtain ⟨k0, k1, k2, k3, k4, k5, k6⟩ := ans_read q0 (i64_rng kn.ok 8) (L := (ansL (ρ.i .i64 4) (ρ.i .i64 5) (ρ.i .i64 6) (ρ.i .i64 7) (ρ.i .i64 8) ++ ρ.z.rl 0)) rfl
  omega
theorem vclans_2 : VD TTlans (st0 cLAns) wlans_2 := by
  intro ρ kn hp
  have hF : ρ.z.F = oct.Φ := kn.F
  simp only [h_nil, h_cons, d_le, d_eq, d_not, d_var, d_lit, d_cel, d_leq, d_fn, d_and, d_iff, IE.den, LE.den, AL.den, lenV, true_and, and_true, hF, pb12, pl9, pr30, pr31, pr32, pr33, pr34, pr35, pr36] at hp
  obtain ⟨p1, p2, p3, p4, p5, p6, p7, p8, p9, p10, p11, p12, p13, p14, p15, p16⟩ := hp
  exfalso
  have q0 : ansR (ρ.i .i64 1) (ρ.i .i64 2) (ρ.i .i64 3) (ρ.i .i64 4) (ρ.i .i64 5) (ρ.i .i64 6) (ρ.i .i64 7) = true := by assumption
  obtain ⟨k0, k1, k2, k3, k4, k5, k6⟩ := ans_read q0 (i64_rng kn.ok 8) (L := (ansL (ρ.i .i64 4) (ρ.i .i64 5) (ρ.i .i64 6) (ρ.i .i64 7) (ρ.i .i64 8) ++ ρ.z.rl 0)) rfl
  omega
theorem vclans_3 : VD TTlans (st0 cLAns) wlans_3 := by
  intro ρ kn hp
  have hF : ρ.z.F = oct.Φ := kn.F
  simp only [h_nil, h_cons, d_le, d_eq, d_not, d_var, d_lit, d_cel, d_leq, d_fn, d_and, d_iff, IE.den, LE.den, AL.den, lenV, true_and, and_true, hF, pb12, pl9, pr30, pr31, pr32, pr33, pr34, pr35, pr36] at hp
  obtain ⟨p1, p2, p3, p4, p5, p6, p7, p8, p9, p10, p11, p12, p13, p14, p15⟩ := hp
  exfalso
  have q0 : ansR (ρ.i .i64 1) (ρ.i .i64 2) (ρ.i .i64 3) (ρ.i .i64 4) (ρ.i .i64 5) (ρ.i .i64 6) (ρ.i .i64 7) = true := by assumption
  obtain ⟨k0, k1, k2, k3, k4, k5, k6⟩ := ans_read q0 (i64_rng kn.ok 8) (L := (ansL (ρ.i .i64 4) (ρ.i .i64 5) (ρ.i .i64 6) (ρ.i .i64 7) (ρ.i .i64 8) ++ ρ.z.rl 0)) rfl
  omega
theorem vclans_4 : VD TTlans (st0 cLAns) wlans_4 := by
  intro ρ kn hp
  have hF : ρ.z.F = oct.Φ := kn.F
  simp only [h_nil, h_cons, d_le, d_eq, d_not, d_var, d_lit, d_cel, d_leq, d_fn, d_and, d_iff, IE.den, LE.den, AL.den, lenV, true_and, and_true, hF, pb12, pl9, pr30, pr31, pr32, pr33, pr34, pr35, pr36] at hp
  obtain ⟨p1, p2, p3, p4, p5, p6, p7, p8, p9, p10, p11, p12, p13, p14⟩ := hp
  exfalso
  have q0 : ansR (ρ.i .i64 1) (ρ.i .i64 2) (ρ.i .i64 3) (ρ.i .i64 4) (ρ.i .i64 5) (ρ.i .i64 6) (ρ.i .i64 7) = true := by assumption
  obtain ⟨k0, k1, k2, k3, k4, k5, k6⟩ := ans_read q0 (i64_rng kn.ok 8) (L := (ansL (ρ.i .i64 4) (ρ.i .i64 5) (ρ.i .i64 6) (ρ.i .i64 7) (ρ.i .i64 8) ++ ρ.z.rl 0)) rfl
  omega
theorem vclans_5 : VD TTlans (st0 cLAns) wlans_5 := by
  intro ρ kn hp
  have hF : ρ.z.F = oct.Φ := kn.F
  simp only [h_nil, h_cons, d_le, d_eq, d_not, d_var, d_lit, d_cel, d_leq, d_fn, d_and, d_iff, IE.den, LE.den, AL.den, lenV, true_and, and_true, hF, pb12, pl9, pr30, pr31, pr32, pr33, pr34, pr35, pr36] at hp
  obtain ⟨p1, p2, p3, p4, p5, p6, p7, p8, p9, p10, p11, p12, p13⟩ := hp
  exfalso
  have q0 : ansR (ρ.i .i64 1) (ρ.i .i64 2) (ρ.i .i64 3) (ρ.i .i64 4) (ρ.i .i64 5) (ρ.i .i64 6) (ρ.i .i64 7) = true := by assumption
  obtain ⟨k0, k1, k2, k3, k4, k5, k6⟩ := ans_read q0 (i64_rng kn.ok 8) (L := (ansL (ρ.i .i64 4) (ρ.i .i64 5) (ρ.i .i64 6) (ρ.i .i64 7) (ρ.i .i64 8) ++ ρ.z.rl 0)) rfl
  omega
theorem vclans_6 : VD TTlans (st0 cLAns) wlans_6 := by
  intro ρ kn hp
  have hF : ρ.z.F = oct.Φ := kn.F
  simp only [h_nil, h_cons, d_le, d_eq, d_not, d_var, d_lit, d_cel, d_leq, d_fn, d_and, d_iff, IE.den, LE.den, AL.den, lenV, true_and, and_true, hF, pb12, pl9, pr30, pr31, pr32, pr33, pr34, pr35, pr36] at hp
  obtain ⟨p1, p2, p3, p4, p5, p6, p7, p8, p9, p10, p11, p12⟩ := hp
  exfalso
  have q0 : ansR (ρ.i .i64 1) (ρ.i .i64 2) (ρ.i .i64 3) (ρ.i .i64 4) (ρ.i .i64 5) (ρ.i .i64 6) (ρ.i .i64 7) = true := by assumption
  obtain ⟨k0, k1, k2, k3, k4, k5, k6⟩ := ans_read q0 (i64_rng kn.ok 8) (L := (ansL (ρ.i .i64 4) (ρ.i .i64 5) (ρ.i .i64 6) (ρ.i .i64 7) (ρ.i .i64 8) ++ ρ.z.rl 0)) rfl
  omega
theorem vclans_7 : VD TTlans (st0 cLAns) wlans_7 := by
  intro ρ kn hp
  have hF : ρ.z.F = oct.Φ := kn.F
  simp only [h_nil, h_cons, d_le, d_eq, d_not, d_var, d_lit, d_cel, d_leq, d_fn, d_and, d_iff, IE.den, LE.den, AL.den, lenV, true_and, and_true, hF, pb12, pl9, pr30, pr31, pr32, pr33, pr34, pr35, pr36] at hp
  obtain ⟨p1, p2, p3, p4, p5, p6, p7, p8, p9, p10, p11⟩ := hp
  exfalso
  have q0 : ansR (ρ.i .i64 1) (ρ.i .i64 2) (ρ.i .i64 3) (ρ.i .i64 4) (ρ.i .i64 5) (ρ.i .i64 6) (ρ.i .i64 7) = true := by assumption
  obtain ⟨k0, k1, k2, k3, k4, k5, k6⟩ := ans_read q0 (i64_rng kn.ok 8) (L := (ansL (ρ.i .i64 4) (ρ.i .i64 5) (ρ.i .i64 6) (ρ.i .i64 7) (ρ.i .i64 8) ++ ρ.z.rl 0)) rfl
  omega
theorem vclans_8 : VD TTlans (st0 cLAns) wlans_8 := by
  intro ρ kn hp
  exact all_nil
theorem vclans_9 : VD TTlans (st0 cLAns) wlans_9 := by
  intro ρ kn hp
  exact all_nil
theorem told_lans : Sx.Told oct.Φ cLAns := told_vw (cs := [cWorks19, cRgt, cRgtN, cRAns, cTold, cToldN, cRTold, cRToldN, cTl]) (all_cons told_works19 (all_cons told_rgt (all_cons told_rgtn (all_cons told_rans (all_cons told_tld (all_cons told_tldn (all_cons told_rtld (all_cons told_rtldn (all_cons told_tl (all_nil)))))))))) 9000 vwlans (by kernel_rfl) (by kernel_rfl) (by kernel_rfl) (post_nil rfl) (by kernel_rfl) (by kernel_rfl) (all_cons vclans_0 (all_cons vclans_1 (all_cons vclans_2 (all_cons vclans_3 (all_cons vclans_4 (all_cons vclans_5 (all_cons vclans_6 (all_cons vclans_7 (all_cons vclans_8 (all_cons vclans_9 (all_nil)))))))))))
noncomputable section
abbrev TTlans0 : Tab := T oct.Φ cLAns0.roms [cWorks19, cRgt, cRgtN, cRAns, cTold, cToldN, cRTold, cRToldN, cTl]
abbrev tlans01 : LE := LE.fn 9 (AL.int .i64 (IE.var .i64 4) (AL.int .i64 (IE.var .i64 5) (AL.int .i64 (IE.var .i64 6) (AL.int .i64 (IE.var .i64 7) (AL.int .i64 (IE.var .i64 8) AL.nil)))))
abbrev tlans02 : BE := BE.fn 12 (AL.int .i64 (IE.var .i64 1) (AL.int .i64 (IE.var .i64 2) (AL.int .i64 (IE.var .i64 3) (AL.int .i64 (IE.var .i64 4) (AL.int .i64 (IE.var .i64 5) (AL.int .i64 (IE.var .i64 6) (AL.int .i64 (IE.var .i64 7) AL.nil)))))))
abbrev tlans00 : AL := AL.int .i64 (IE.var .i64 1) (AL.int .i64 (IE.var .i64 2) (AL.int .i64 (IE.var .i64 3) (AL.lst (LE.cat (LE.cat tlans01 (LE.take (LE.rom 0) (IE.lit 0))) (LE.drop tlans01 (IE.len tlans01))) AL.nil)))
abbrev pclans0_0 : List BE := [(BE.lit true)]
abbrev pclans0_1 : List BE := ((BE.le (IE.lit 0) (IE.fn .i64 36 tlans00)) :: (BE.le (IE.fn .i64 36 tlans00) (IE.len tlans01)) :: (BE.le (IE.fn .i64 36 tlans00) (IE.lit 50)) :: (BE.le (IE.lit 1) (IE.len tlans01)) :: (BE.le (IE.len tlans01) (IE.lit 50)) :: (BE.le (IE.lit 1) (IE.len tlans01)) :: (BE.le (IE.len tlans01) (IE.lit 50)) :: tlans02 :: pclans0_0)
abbrev pclans0_2 : List BE := ((BE.eq (IE.fn .i64 31 tlans00) (IE.var .i64 4)) :: pclans0_1)
abbrev pclans0_3 : List BE := ((BE.eq (IE.fn .i64 32 tlans00) (IE.var .i64 5)) :: pclans0_2)
abbrev pclans0_4 : List BE := ((BE.eq (IE.fn .i64 33 tlans00) (IE.var .i64 6)) :: pclans0_3)
abbrev pclans0_5 : List BE := ((BE.eq (IE.fn .i64 34 tlans00) (IE.var .i64 7)) :: pclans0_4)
abbrev pclans0_6 : List BE := ((BE.eq (IE.fn .i64 35 tlans00) (IE.var .i64 8)) :: pclans0_5)
abbrev pclans0_7 : List BE := ((BE.eq (IE.fn .i64 36 tlans00) (IE.len tlans01)) :: pclans0_6)
def wlans0_0 : VW := (VW.done ((BE.eq (IE.fn .i64 30 tlans00) (IE.lit 0)) :: pclans0_7) (some []))
def wlans0_1 : VW := (VW.done ((BE.not (BE.eq (IE.fn .i64 30 tlans00) (IE.lit 0))) :: pclans0_7) (some [(G.b (BE.lit true) (BE.lit false))]))
def wlans0_2 : VW := (VW.done ((BE.not (BE.eq (IE.fn .i64 36 tlans00) (IE.len tlans01))) :: pclans0_6) (some [(G.b (BE.lit true) (BE.lit false))]))
def wlans0_3 : VW := (VW.done ((BE.not (BE.eq (IE.fn .i64 35 tlans00) (IE.var .i64 8))) :: pclans0_5) (some [(G.b (BE.lit true) (BE.lit false))]))
def wlans0_4 : VW := (VW.done ((BE.not (BE.eq (IE.fn .i64 34 tlans00) (IE.var .i64 7))) :: pclans0_4) (some [(G.b (BE.lit true) (BE.lit false))]))
def wlans0_5 : VW := (VW.done ((BE.not (BE.eq (IE.fn .i64 33 tlans00) (IE.var .i64 6))) :: pclans0_3) (some [(G.b (BE.lit true) (BE.lit false))]))
def wlans0_6 : VW := (VW.done ((BE.not (BE.eq (IE.fn .i64 32 tlans00) (IE.var .i64 5))) :: pclans0_2) (some [(G.b (BE.lit true) (BE.lit false))]))
def wlans0_7 : VW := (VW.done ((BE.not (BE.eq (IE.fn .i64 31 tlans00) (IE.var .i64 4))) :: pclans0_1) (some [(G.b (BE.lit true) (BE.lit false))]))
def wlans0_8 : VW := (VW.done ((BE.not tlans02) :: pclans0_0) (some []))
def vwlans0 : List VW := [wlans0_0, wlans0_1, wlans0_2, wlans0_3, wlans0_4, wlans0_5, wlans0_6, wlans0_7, wlans0_8]
end
theorem vclans0_0 : VD TTlans0 (st0 cLAns0) wlans0_0 := by
  intro ρ kn hp
  exact all_nil
theorem vclans0_1 : VD TTlans0 (st0 cLAns0) wlans0_1 := by
  intro ρ kn hp
  have hF : ρ.z.F = oct.Φ := kn.F
  simp only [h_nil, h_cons, d_le, d_eq, d_not, d_var, d_lit, d_cel, d_leq, d_fn, d_and, d_iff, IE.den, LE.den, AL.den, lenV, true_and, and_true, hF, pb12, pl9, pr30, pr31, pr32, pr33, pr34, pr35, pr36] at hp
  obtain ⟨p1, p2, p3, p4, p5, p6, p7, p8, p9, p10, p11, p12, p13, p14, p15⟩ := hp
  exfalso
  have q0 : ansR (ρ.i .i64 1) (ρ.i .i64 2) (ρ.i .i64 3) (ρ.i .i64 4) (ρ.i .i64 5) (ρ.i .i64 6) (ρ.i .i64 7) = true := by assumption
  obtain ⟨k0, k1, k2, k3, k4, k5, k6⟩ := ans_read q0 (i64_rng kn.ok 8) (L := ((ansL (ρ.i .i64 4) (ρ.i .i64 5) (ρ.i .i64 6) (ρ.i .i64 7) (ρ.i .i64 8) ++ List.take (0 : Int).toNat (ρ.z.rl 0)) ++ List.drop (((ansL (ρ.i .i64 4) (ρ.i .i64 5) (ρ.i .i64 6) (ρ.i .i64 7) (ρ.i .i64 8)).length : Nat) : Int).toNat (ansL (ρ.i .i64 4) (ρ.i .i64 5) (ρ.i .i64 6) (ρ.i .i64 7) (ρ.i .i64 8)))) (List.append_assoc _ _ _)
  omega
theorem vclans0_2 : VD TTlans0 (st0 cLAns0) wlans0_2 := by
  intro ρ kn hp
  have hF : ρ.z.F = oct.Φ := kn.F
  simp only [h_nil, h_cons, d_le, d_eq, d_not, d_var, d_lit, d_cel, d_leq, d_fn, d_and, d_iff, IE.den, LE.den, AL.den, lenV, true_and, and_true, hF, pb12, pl9, pr30, pr31, pr32, pr33, pr34, pr35, pr36] at hp
  obtain ⟨p1, p2, p3, p4, p5, p6, p7, p8, p9, p10, p11, p12, p13, p14⟩ := hp
  exfalso
  have q0 : ansR (ρ.i .i64 1) (ρ.i .i64 2) (ρ.i .i64 3) (ρ.i .i64 4) (ρ.i .i64 5) (ρ.i .i64 6) (ρ.i .i64 7) = true := by assumption
  obtain ⟨k0, k1, k2, k3, k4, k5, k6⟩ := ans_read q0 (i64_rng kn.ok 8) (L := ((ansL (ρ.i .i64 4) (ρ.i .i64 5) (ρ.i .i64 6) (ρ.i .i64 7) (ρ.i .i64 8) ++ List.take (0 : Int).toNat (ρ.z.rl 0)) ++ List.drop (((ansL (ρ.i .i64 4) (ρ.i .i64 5) (ρ.i .i64 6) (ρ.i .i64 7) (ρ.i .i64 8)).length : Nat) : Int).toNat (ansL (ρ.i .i64 4) (ρ.i .i64 5) (ρ.i .i64 6) (ρ.i .i64 7) (ρ.i .i64 8)))) (List.append_assoc _ _ _)
  omega
theorem vclans0_3 : VD TTlans0 (st0 cLAns0) wlans0_3 := by
  intro ρ kn hp
  have hF : ρ.z.F = oct.Φ := kn.F
  simp only [h_nil, h_cons, d_le, d_eq, d_not, d_var, d_lit, d_cel, d_leq, d_fn, d_and, d_iff, IE.den, LE.den, AL.den, lenV, true_and, and_true, hF, pb12, pl9, pr30, pr31, pr32, pr33, pr34, pr35, pr36] at hp
  obtain ⟨p1, p2, p3, p4, p5, p6, p7, p8, p9, p10, p11, p12, p13⟩ := hp
  exfalso
  have q0 : ansR (ρ.i .i64 1) (ρ.i .i64 2) (ρ.i .i64 3) (ρ.i .i64 4) (ρ.i .i64 5) (ρ.i .i64 6) (ρ.i .i64 7) = true := by assumption
  obtain ⟨k0, k1, k2, k3, k4, k5, k6⟩ := ans_read q0 (i64_rng kn.ok 8) (L := ((ansL (ρ.i .i64 4) (ρ.i .i64 5) (ρ.i .i64 6) (ρ.i .i64 7) (ρ.i .i64 8) ++ List.take (0 : Int).toNat (ρ.z.rl 0)) ++ List.drop (((ansL (ρ.i .i64 4) (ρ.i .i64 5) (ρ.i .i64 6) (ρ.i .i64 7) (ρ.i .i64 8)).length : Nat) : Int).toNat (ansL (ρ.i .i64 4) (ρ.i .i64 5) (ρ.i .i64 6) (ρ.i .i64 7) (ρ.i .i64 8)))) (List.append_assoc _ _ _)
  omega
theorem vclans0_4 : VD TTlans0 (st0 cLAns0) wlans0_4 := by
  intro ρ kn hp
  have hF : ρ.z.F = oct.Φ := kn.F
  simp only [h_nil, h_cons, d_le, d_eq, d_not, d_var, d_lit, d_cel, d_leq, d_fn, d_and, d_iff, IE.den, LE.den, AL.den, lenV, true_and, and_true, hF, pb12, pl9, pr30, pr31, pr32, pr33, pr34, pr35, pr36] at hp
  obtain ⟨p1, p2, p3, p4, p5, p6, p7, p8, p9, p10, p11, p12⟩ := hp
  exfalso
  have q0 : ansR (ρ.i .i64 1) (ρ.i .i64 2) (ρ.i .i64 3) (ρ.i .i64 4) (ρ.i .i64 5) (ρ.i .i64 6) (ρ.i .i64 7) = true := by assumption
  obtain ⟨k0, k1, k2, k3, k4, k5, k6⟩ := ans_read q0 (i64_rng kn.ok 8) (L := ((ansL (ρ.i .i64 4) (ρ.i .i64 5) (ρ.i .i64 6) (ρ.i .i64 7) (ρ.i .i64 8) ++ List.take (0 : Int).toNat (ρ.z.rl 0)) ++ List.drop (((ansL (ρ.i .i64 4) (ρ.i .i64 5) (ρ.i .i64 6) (ρ.i .i64 7) (ρ.i .i64 8)).length : Nat) : Int).toNat (ansL (ρ.i .i64 4) (ρ.i .i64 5) (ρ.i .i64 6) (ρ.i .i64 7) (ρ.i .i64 8)))) (List.append_assoc _ _ _)
  omega
theorem vclans0_5 : VD TTlans0 (st0 cLAns0) wlans0_5 := by
  intro ρ kn hp
  have hF : ρ.z.F = oct.Φ := kn.F
  simp only [h_nil, h_cons, d_le, d_eq, d_not, d_var, d_lit, d_cel, d_leq, d_fn, d_and, d_iff, IE.den, LE.den, AL.den, lenV, true_and, and_true, hF, pb12, pl9, pr30, pr31, pr32, pr33, pr34, pr35, pr36] at hp
  obtain ⟨p1, p2, p3, p4, p5, p6, p7, p8, p9, p10, p11⟩ := hp
  exfalso
  have q0 : ansR (ρ.i .i64 1) (ρ.i .i64 2) (ρ.i .i64 3) (ρ.i .i64 4) (ρ.i .i64 5) (ρ.i .i64 6) (ρ.i .i64 7) = true := by assumption
  obtain ⟨k0, k1, k2, k3, k4, k5, k6⟩ := ans_read q0 (i64_rng kn.ok 8) (L := ((ansL (ρ.i .i64 4) (ρ.i .i64 5) (ρ.i .i64 6) (ρ.i .i64 7) (ρ.i .i64 8) ++ List.take (0 : Int).toNat (ρ.z.rl 0)) ++ List.drop (((ansL (ρ.i .i64 4) (ρ.i .i64 5) (ρ.i .i64 6) (ρ.i .i64 7) (ρ.i .i64 8)).length : Nat) : Int).toNat (ansL (ρ.i .i64 4) (ρ.i .i64 5) (ρ.i .i64 6) (ρ.i .i64 7) (ρ.i .i64 8)))) (List.append_assoc _ _ _)
  omega
theorem vclans0_6 : VD TTlans0 (st0 cLAns0) wlans0_6 := by
  intro ρ kn hp
  have hF : ρ.z.F = oct.Φ := kn.F
  simp only [h_nil, h_cons, d_le, d_eq, d_not, d_var, d_lit, d_cel, d_leq, d_fn, d_and, d_iff, IE.den, LE.den, AL.den, lenV, true_and, and_true, hF, pb12, pl9, pr30, pr31, pr32, pr33, pr34, pr35, pr36] at hp
  obtain ⟨p1, p2, p3, p4, p5, p6, p7, p8, p9, p10⟩ := hp
  exfalso
  have q0 : ansR (ρ.i .i64 1) (ρ.i .i64 2) (ρ.i .i64 3) (ρ.i .i64 4) (ρ.i .i64 5) (ρ.i .i64 6) (ρ.i .i64 7) = true := by assumption
  obtain ⟨k0, k1, k2, k3, k4, k5, k6⟩ := ans_read q0 (i64_rng kn.ok 8) (L := ((ansL (ρ.i .i64 4) (ρ.i .i64 5) (ρ.i .i64 6) (ρ.i .i64 7) (ρ.i .i64 8) ++ List.take (0 : Int).toNat (ρ.z.rl 0)) ++ List.drop (((ansL (ρ.i .i64 4) (ρ.i .i64 5) (ρ.i .i64 6) (ρ.i .i64 7) (ρ.i .i64 8)).length : Nat) : Int).toNat (ansL (ρ.i .i64 4) (ρ.i .i64 5) (ρ.i .i64 6) (ρ.i .i64 7) (ρ.i .i64 8)))) (List.append_assoc _ _ _)
  omega
theorem vclans0_7 : VD TTlans0 (st0 cLAns0) wlans0_7 := by
  intro ρ kn hp
  have hF : ρ.z.F = oct.Φ := kn.F
  simp only [h_nil, h_cons, d_le, d_eq, d_not, d_var, d_lit, d_cel, d_leq, d_fn, d_and, d_iff, IE.den, LE.den, AL.den, lenV, true_and, and_true, hF, pb12, pl9, pr30, pr31, pr32, pr33, pr34, pr35, pr36] at hp
  obtain ⟨p1, p2, p3, p4, p5, p6, p7, p8, p9⟩ := hp
  exfalso
  have q0 : ansR (ρ.i .i64 1) (ρ.i .i64 2) (ρ.i .i64 3) (ρ.i .i64 4) (ρ.i .i64 5) (ρ.i .i64 6) (ρ.i .i64 7) = true := by assumption
  obtain ⟨k0, k1, k2, k3, k4, k5, k6⟩ := ans_read q0 (i64_rng kn.ok 8) (L := ((ansL (ρ.i .i64 4) (ρ.i .i64 5) (ρ.i .i64 6) (ρ.i .i64 7) (ρ.i .i64 8) ++ List.take (0 : Int).toNat (ρ.z.rl 0)) ++ List.drop (((ansL (ρ.i .i64 4) (ρ.i .i64 5) (ρ.i .i64 6) (ρ.i .i64 7) (ρ.i .i64 8)).length : Nat) : Int).toNat (ansL (ρ.i .i64 4) (ρ.i .i64 5) (ρ.i .i64 6) (ρ.i .i64 7) (ρ.i .i64 8)))) (List.append_assoc _ _ _)
  omega
theorem vclans0_8 : VD TTlans0 (st0 cLAns0) wlans0_8 := by
  intro ρ kn hp
  exact all_nil
theorem told_lans0 : Sx.Told oct.Φ cLAns0 := told_vw (cs := [cWorks19, cRgt, cRgtN, cRAns, cTold, cToldN, cRTold, cRToldN, cTl]) (all_cons told_works19 (all_cons told_rgt (all_cons told_rgtn (all_cons told_rans (all_cons told_tld (all_cons told_tldn (all_cons told_rtld (all_cons told_rtldn (all_cons told_tl (all_nil)))))))))) 9000 vwlans0 (by kernel_rfl) (by kernel_rfl) (by kernel_rfl) (post_nil rfl) (by kernel_rfl) (by kernel_rfl) (all_cons vclans0_0 (all_cons vclans0_1 (all_cons vclans0_2 (all_cons vclans0_3 (all_cons vclans0_4 (all_cons vclans0_5 (all_cons vclans0_6 (all_cons vclans0_7 (all_cons vclans0_8 (all_nil))))))))))
end Go.Proofs.Ythenenacmiiphaa.oct
