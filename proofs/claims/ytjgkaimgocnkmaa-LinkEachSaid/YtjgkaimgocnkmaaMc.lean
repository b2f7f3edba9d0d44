/- Layer link: sending and taking, told. No condition. -/
import Derived.Test.YtjgkaimgocnkmaaMb
set_option linter.unusedVariables false
set_option linter.unusedSimpArgs false
set_option linter.deprecated false
namespace Go.Proofs.Ytjgkaimgocnkmaa.lnk
open Go Go.Proofs.Ytjgkaimgocnkmaa.Sx
noncomputable section
abbrev TTsend : Tab := T lnk.Φ cSendS.roms [cStamp, cRight]
def wsend_0 : VW := (VW.done [(BE.lit true), (BE.le (IE.lit 1) (IE.var .i64 1)), (BE.le (IE.var .i64 1) (IE.lit 1099511627776)), (BE.le (IE.lit 1) (IE.len (LE.rom 0))), (BE.le (IE.len (LE.rom 0)) (IE.lit 64)), (BE.eq (IE.len (LE.rom 1)) (IE.len (LE.rom 0))), (BE.fn 1 (AL.lst (LE.rom 0) AL.nil)), (BE.fn 2 (AL.lst (LE.rom 1) AL.nil)), (BE.le (IE.lit 0) (IE.var .i64 2)), (BE.not (BE.le (IE.len (LE.rom 0)) (IE.var .i64 2))), (BE.not (BE.eq (IE.cel .i64 (LE.rom 0) (IE.var .i64 2) 0) (IE.lit 1099511627776)))] (some [(G.i (IE.len (LE.set (LE.rom 0) (IE.var .i64 2) (AL.int .i64 (IE.wrap .i64 (IE.add (IE.cel .i64 (LE.rom 0) (IE.var .i64 2) 0) (IE.lit 1))) AL.nil))) (IE.len (LE.rom 0))), (G.i (IE.len (LE.set (LE.rom 0) (IE.var .i64 2) (AL.int .i64 (IE.wrap .i64 (IE.add (IE.cel .i64 (LE.rom 0) (IE.var .i64 2) 0) (IE.lit 1))) AL.nil))) (IE.len (LE.rom 0)))]))
def vwsend : List VW := [wsend_0]
end
theorem vcsend_0 : VD TTsend (st0 cSendS) wsend_0 := by
  intro ρ kn hp
  have hF : ρ.z.F = lnk.Φ := kn.F
  simp only [h_nil, h_cons, d_le, d_eq, d_not, d_var, d_lit, d_cel, d_leq, d_fn, d_and, d_iff, IE.den, LE.den, AL.den, lenV, true_and, and_true, hF, pb1, pb2, pb4, pb5, pb6] at hp
  obtain ⟨p1, p2, p3, p4, p5, p6, p7, p8, p9, p10⟩ := hp
  refine all_cons (show ((((ρ.z.rl 0).set (ρ.i .i64 2).toNat [Go.Value.int .i64 (IntKind.wrap .i64 ((clampK .i64 (intV (celV (ρ.z.rl 0) (ρ.i .i64 2) 0))) + (1 : Int)))]).length : Nat) : Int) = (((ρ.z.rl 0).length : Nat) : Int) from ?_) (all_cons (show ((((ρ.z.rl 0).set (ρ.i .i64 2).toNat [Go.Value.int .i64 (IntKind.wrap .i64 ((clampK .i64 (intV (celV (ρ.z.rl 0) (ρ.i .i64 2) 0))) + (1 : Int)))]).length : Nat) : Int) = (((ρ.z.rl 0).length : Nat) : Int) from ?_) (all_nil))
  all_goals try simp only [hF, pb1, pb2, pb4, pb5, pb6]
  all_goals
    rw [List.length_set]
theorem told_send : Sx.Told lnk.Φ cSendS := told_vw (cs := [cStamp, cRight]) (all_cons told_stamp (all_cons told_right (all_nil))) 6000 vwsend (by kernel_rfl) (by kernel_rfl) (by kernel_rfl) (post_nil rfl) (by kernel_rfl) (by kernel_rfl) (all_cons vcsend_0 (all_nil))
noncomputable section
abbrev TTrest : Tab := T lnk.Φ cRest.roms [cStamp, cRight]
def wrest_0 : VW := (VW.done [(BE.lit true), (BE.le (IE.lit 1) (IE.var .i64 1)), (BE.le (IE.var .i64 1) (IE.lit 1099511627776)), (BE.le (IE.lit 1) (IE.len (LE.rom 0))), (BE.le (IE.len (LE.rom 0)) (IE.lit 64)), (BE.eq (IE.len (LE.rom 1)) (IE.len (LE.rom 0))), (BE.fn 1 (AL.lst (LE.rom 0) AL.nil)), (BE.fn 2 (AL.lst (LE.rom 1) AL.nil)), (BE.not (BE.eq (IE.var .i64 1) (IE.lit 1099511627776)))] (some [(G.i (IE.len (LE.rep (AL.int .i64 (IE.lit 0) AL.nil) (IE.len (LE.rom 0)))) (IE.len (LE.rom 0))), (G.l (LE.rep (AL.int .i64 (IE.lit 0) AL.nil) (IE.len (LE.rom 0))) (LE.cat (LE.cat (LE.take (LE.rom 0) (IE.lit 0)) (LE.rep (AL.int .i64 (IE.lit 0) AL.nil) (IE.len (LE.rom 0)))) (LE.drop (LE.rom 0) (IE.len (LE.rom 0))))), (G.i (IE.len (LE.rep (AL.int .i64 (IE.lit 0) AL.nil) (IE.len (LE.rom 0)))) (IE.len (LE.rom 0)))]))
def vwrest : List VW := [wrest_0]
end
theorem vcrest_0 : VD TTrest (st0 cRest) wrest_0 := by
  intro ρ kn hp
  have hF : ρ.z.F = lnk.Φ := kn.F
  simp only [h_nil, h_cons, d_le, d_eq, d_not, d_var, d_lit, d_cel, d_leq, d_fn, d_and, d_iff, IE.den, LE.den, AL.den, lenV, true_and, and_true, hF, pb1, pb2, pb4, pb5, pb6] at hp
  obtain ⟨p1, p2, p3, p4, p5, p6, p7, p8⟩ := hp
  refine all_cons (show (((List.replicate (((ρ.z.rl 0).length : Nat) : Int).toNat [Go.Value.int .i64 (0 : Int)]).length : Nat) : Int) = (((ρ.z.rl 0).length : Nat) : Int) from ?_) (all_cons (show (List.replicate (((ρ.z.rl 0).length : Nat) : Int).toNat [Go.Value.int .i64 (0 : Int)]) = ((((ρ.z.rl 0).take (0 : Int).toNat) ++ (List.replicate (((ρ.z.rl 0).length : Nat) : Int).toNat [Go.Value.int .i64 (0 : Int)])) ++ ((ρ.z.rl 0).drop (((ρ.z.rl 0).length : Nat) : Int).toNat)) from ?_) (all_cons (show (((List.replicate (((ρ.z.rl 0).length : Nat) : Int).toNat [Go.Value.int .i64 (0 : Int)]).length : Nat) : Int) = (((ρ.z.rl 0).length : Nat) : Int) from ?_) (all_nil)))
  all_goals try simp only [hF, pb1, pb2, pb4, pb5, pb6]
  all_goals first
    | (rw [List.length_replicate]; omega)
    | (rw [show List.drop (((ρ.z.rl 0).length : Nat) : Int).toNat (ρ.z.rl 0) = [] from List.drop_eq_nil_of_le (by omega), List.append_nil]; rfl)
    | skip
theorem told_rest : Sx.Told lnk.Φ cRest := told_vw (cs := [cStamp, cRight]) (all_cons told_stamp (all_cons told_right (all_nil))) 6000 vwrest (by kernel_rfl) (by kernel_rfl) (by kernel_rfl) (post_nil rfl) (by kernel_rfl) (by kernel_rfl) (all_cons vcrest_0 (all_nil))
theorem told_sendM : Sx.Told lnk.Φ cSendM := told_auto (cs := [cStamp, cRight]) (all_cons told_stamp (all_cons told_right (all_nil))) 6000 (by kernel_rfl) (by kernel_rfl) (by kernel_rfl) (post_nil rfl) (by kernel_rfl) (by kernel_rfl)
theorem told_restM : Sx.Told lnk.Φ cRestM := told_auto (cs := [cStamp, cRight]) (all_cons told_stamp (all_cons told_right (all_nil))) 6000 (by kernel_rfl) (by kernel_rfl) (by kernel_rfl) (post_nil rfl) (by kernel_rfl) (by kernel_rfl)
noncomputable section
abbrev TTtakeA : Tab := T lnk.Φ cTakeA.roms [cStamp, cRight]
def pctakeA_0 : List BE := [(BE.lit true), (BE.le (IE.lit 1) (IE.var .i64 1)), (BE.le (IE.var .i64 1) (IE.lit 1099511627776)), (BE.le (IE.lit 1) (IE.len (LE.rom 0))), (BE.le (IE.len (LE.rom 0)) (IE.lit 64)), (BE.eq (IE.len (LE.rom 1)) (IE.len (LE.rom 0))), (BE.fn 1 (AL.lst (LE.rom 0) AL.nil)), (BE.fn 2 (AL.lst (LE.rom 1) AL.nil)), (BE.fn 4 (AL.int .i64 (IE.var .i64 3) (AL.int .i64 (IE.var .i64 4) AL.nil))), (BE.le (IE.lit 0) (IE.var .i64 2)), (BE.not (BE.le (IE.len (LE.rom 0)) (IE.var .i64 2))), (BE.not (BE.le (IE.var .i64 3) (IE.cel .i64 (LE.rom 1) (IE.var .i64 2) 0)))]
def pctakeA_1 : List BE := ((BE.le (IE.cel .i64 (LE.rom 1) (IE.var .i64 2) 1) (IE.var .i64 4)) :: pctakeA_0)
def wtakeA_0 : VW := (VW.done ((BE.le (IE.var .i64 4) (IE.cel .i64 (LE.rom 1) (IE.var .i64 2) 1)) :: pctakeA_1) (some [(G.i (IE.len (LE.set (LE.rom 1) (IE.var .i64 2) (AL.int .i64 (IE.var .i64 3) (AL.int .i64 (IE.var .i64 4) AL.nil)))) (IE.len (LE.rom 1))), (G.i (IE.len (LE.set (LE.rom 1) (IE.var .i64 2) (AL.int .i64 (IE.var .i64 3) (AL.int .i64 (IE.var .i64 4) AL.nil)))) (IE.len (LE.rom 1)))]))
def wtakeA_1 : VW := (VW.done ((BE.not (BE.le (IE.var .i64 4) (IE.cel .i64 (LE.rom 1) (IE.var .i64 2) 1))) :: pctakeA_1) (some [(G.i (IE.len (LE.set (LE.rom 1) (IE.var .i64 2) (AL.int .i64 (IE.var .i64 3) (AL.int .i64 (IE.var .i64 4) AL.nil)))) (IE.len (LE.rom 1))), (G.i (IE.len (LE.set (LE.rom 1) (IE.var .i64 2) (AL.int .i64 (IE.var .i64 3) (AL.int .i64 (IE.var .i64 4) AL.nil)))) (IE.len (LE.rom 1)))]))
def wtakeA_2 : VW := (VW.done ((BE.not (BE.le (IE.cel .i64 (LE.rom 1) (IE.var .i64 2) 1) (IE.var .i64 4))) :: pctakeA_0) (some [(G.i (IE.len (LE.set (LE.rom 1) (IE.var .i64 2) (AL.int .i64 (IE.var .i64 3) (AL.int .i64 (IE.var .i64 4) AL.nil)))) (IE.len (LE.rom 1))), (G.i (IE.len (LE.set (LE.rom 1) (IE.var .i64 2) (AL.int .i64 (IE.var .i64 3) (AL.int .i64 (IE.var .i64 4) AL.nil)))) (IE.len (LE.rom 1)))]))
def vwtakeA : List VW := [wtakeA_0, wtakeA_1, wtakeA_2]
end
theorem vctakeA_0 : VD TTtakeA (st0 cTakeA) wtakeA_0 := by
  intro ρ kn hp
  have hF : ρ.z.F = lnk.Φ := kn.F
  simp only [h_nil, h_cons, d_le, d_eq, d_not, d_var, d_lit, d_cel, d_leq, d_fn, d_and, d_iff, IE.den, LE.den, AL.den, lenV, true_and, and_true, pctakeA_1, pctakeA_0, hF, pb1, pb2, pb4, pb5, pb6] at hp
  obtain ⟨p1, p2, p3, p4, p5, p6, p7, p8, p9, p10, p11, p12, p13⟩ := hp
  refine all_cons (show ((((ρ.z.rl 1).set (ρ.i .i64 2).toNat [Go.Value.int .i64 (ρ.i .i64 3), Go.Value.int .i64 (ρ.i .i64 4)]).length : Nat) : Int) = (((ρ.z.rl 1).length : Nat) : Int) from ?_) (all_cons (show ((((ρ.z.rl 1).set (ρ.i .i64 2).toNat [Go.Value.int .i64 (ρ.i .i64 3), Go.Value.int .i64 (ρ.i .i64 4)]).length : Nat) : Int) = (((ρ.z.rl 1).length : Nat) : Int) from ?_) (all_nil))
  all_goals try simp only [hF, pb1, pb2, pb4, pb5, pb6]
  all_goals
    rw [List.length_set]
theorem vctakeA_1 : VD TTtakeA (st0 cTakeA) wtakeA_1 := by
  intro ρ kn hp
  have hF : ρ.z.F = lnk.Φ := kn.F
  simp only [h_nil, h_cons, d_le, d_eq, d_not, d_var, d_lit, d_cel, d_leq, d_fn, d_and, d_iff, IE.den, LE.den, AL.den, lenV, true_and, and_true, pctakeA_1, pctakeA_0, hF, pb1, pb2, pb4, pb5, pb6] at hp
  obtain ⟨p1, p2, p3, p4, p5, p6, p7, p8, p9, p10, p11, p12, p13⟩ := hp
  refine all_cons (show ((((ρ.z.rl 1).set (ρ.i .i64 2).toNat [Go.Value.int .i64 (ρ.i .i64 3), Go.Value.int .i64 (ρ.i .i64 4)]).length : Nat) : Int) = (((ρ.z.rl 1).length : Nat) : Int) from ?_) (all_cons (show ((((ρ.z.rl 1).set (ρ.i .i64 2).toNat [Go.Value.int .i64 (ρ.i .i64 3), Go.Value.int .i64 (ρ.i .i64 4)]).length : Nat) : Int) = (((ρ.z.rl 1).length : Nat) : Int) from ?_) (all_nil))
  all_goals try simp only [hF, pb1, pb2, pb4, pb5, pb6]
  all_goals
    rw [List.length_set]
theorem vctakeA_2 : VD TTtakeA (st0 cTakeA) wtakeA_2 := by
  intro ρ kn hp
  have hF : ρ.z.F = lnk.Φ := kn.F
  simp only [h_nil, h_cons, d_le, d_eq, d_not, d_var, d_lit, d_cel, d_leq, d_fn, d_and, d_iff, IE.den, LE.den, AL.den, lenV, true_and, and_true, pctakeA_0, hF, pb1, pb2, pb4, pb5, pb6] at hp
  obtain ⟨p1, p2, p3, p4, p5, p6, p7, p8, p9, p10, p11, p12⟩ := hp
  refine all_cons (show ((((ρ.z.rl 1).set (ρ.i .i64 2).toNat [Go.Value.int .i64 (ρ.i .i64 3), Go.Value.int .i64 (ρ.i .i64 4)]).length : Nat) : Int) = (((ρ.z.rl 1).length : Nat) : Int) from ?_) (all_cons (show ((((ρ.z.rl 1).set (ρ.i .i64 2).toNat [Go.Value.int .i64 (ρ.i .i64 3), Go.Value.int .i64 (ρ.i .i64 4)]).length : Nat) : Int) = (((ρ.z.rl 1).length : Nat) : Int) from ?_) (all_nil))
  all_goals try simp only [hF, pb1, pb2, pb4, pb5, pb6]
  all_goals
    rw [List.length_set]
theorem told_takeA : Sx.Told lnk.Φ cTakeA := told_vw (cs := [cStamp, cRight]) (all_cons told_stamp (all_cons told_right (all_nil))) 6000 vwtakeA (by kernel_rfl) (by kernel_rfl) (by kernel_rfl) (post_nil rfl) (by kernel_rfl) (by kernel_rfl) (all_cons vctakeA_0 (all_cons vctakeA_1 (all_cons vctakeA_2 (all_nil))))
noncomputable section
abbrev TTtakeB : Tab := T lnk.Φ cTakeB.roms [cStamp, cRight]
def wtakeB_0 : VW := (VW.done [(BE.lit true), (BE.le (IE.lit 1) (IE.var .i64 1)), (BE.le (IE.var .i64 1) (IE.lit 1099511627776)), (BE.le (IE.lit 1) (IE.len (LE.rom 0))), (BE.le (IE.len (LE.rom 0)) (IE.lit 64)), (BE.eq (IE.len (LE.rom 1)) (IE.len (LE.rom 0))), (BE.fn 1 (AL.lst (LE.rom 0) AL.nil)), (BE.fn 2 (AL.lst (LE.rom 1) AL.nil)), (BE.fn 4 (AL.int .i64 (IE.var .i64 3) (AL.int .i64 (IE.var .i64 4) AL.nil))), (BE.le (IE.lit 0) (IE.var .i64 2)), (BE.not (BE.le (IE.len (LE.rom 0)) (IE.var .i64 2))), (BE.eq (IE.var .i64 3) (IE.cel .i64 (LE.rom 1) (IE.var .i64 2) 0)), (BE.not (BE.le (IE.var .i64 4) (IE.cel .i64 (LE.rom 1) (IE.var .i64 2) 1)))] (some [(G.i (IE.len (LE.set (LE.rom 1) (IE.var .i64 2) (AL.int .i64 (IE.var .i64 3) (AL.int .i64 (IE.var .i64 4) AL.nil)))) (IE.len (LE.rom 1))), (G.i (IE.len (LE.set (LE.rom 1) (IE.var .i64 2) (AL.int .i64 (IE.var .i64 3) (AL.int .i64 (IE.var .i64 4) AL.nil)))) (IE.len (LE.rom 1)))]))
def vwtakeB : List VW := [wtakeB_0]
end
theorem vctakeB_0 : VD TTtakeB (st0 cTakeB) wtakeB_0 := by
  intro ρ kn hp
  have hF : ρ.z.F = lnk.Φ := kn.F
  simp only [h_nil, h_cons, d_le, d_eq, d_not, d_var, d_lit, d_cel, d_leq, d_fn, d_and, d_iff, IE.den, LE.den, AL.den, lenV, true_and, and_true, hF, pb1, pb2, pb4, pb5, pb6] at hp
  obtain ⟨p1, p2, p3, p4, p5, p6, p7, p8, p9, p10, p11, p12⟩ := hp
  refine all_cons (show ((((ρ.z.rl 1).set (ρ.i .i64 2).toNat [Go.Value.int .i64 (ρ.i .i64 3), Go.Value.int .i64 (ρ.i .i64 4)]).length : Nat) : Int) = (((ρ.z.rl 1).length : Nat) : Int) from ?_) (all_cons (show ((((ρ.z.rl 1).set (ρ.i .i64 2).toNat [Go.Value.int .i64 (ρ.i .i64 3), Go.Value.int .i64 (ρ.i .i64 4)]).length : Nat) : Int) = (((ρ.z.rl 1).length : Nat) : Int) from ?_) (all_nil))
  all_goals try simp only [hF, pb1, pb2, pb4, pb5, pb6]
  all_goals
    rw [List.length_set]
theorem told_takeB : Sx.Told lnk.Φ cTakeB := told_vw (cs := [cStamp, cRight]) (all_cons told_stamp (all_cons told_right (all_nil))) 6000 vwtakeB (by kernel_rfl) (by kernel_rfl) (by kernel_rfl) (post_nil rfl) (by kernel_rfl) (by kernel_rfl) (all_cons vctakeB_0 (all_nil))
noncomputable section
abbrev TTtakeC : Tab := T lnk.Φ cTakeC.roms [cStamp, cRight]
def pctakeC_0 : List BE := [(BE.lit true), (BE.le (IE.lit 1) (IE.var .i64 1)), (BE.le (IE.var .i64 1) (IE.lit 1099511627776)), (BE.le (IE.lit 1) (IE.len (LE.rom 0))), (BE.le (IE.len (LE.rom 0)) (IE.lit 64)), (BE.eq (IE.len (LE.rom 1)) (IE.len (LE.rom 0))), (BE.fn 1 (AL.lst (LE.rom 0) AL.nil)), (BE.fn 2 (AL.lst (LE.rom 1) AL.nil)), (BE.fn 4 (AL.int .i64 (IE.var .i64 3) (AL.int .i64 (IE.var .i64 4) AL.nil))), (BE.le (IE.lit 0) (IE.var .i64 2)), (BE.not (BE.le (IE.len (LE.rom 0)) (IE.var .i64 2))), (BE.eq (IE.var .i64 3) (IE.cel .i64 (LE.rom 1) (IE.var .i64 2) 0)), (BE.le (IE.var .i64 4) (IE.cel .i64 (LE.rom 1) (IE.var .i64 2) 1))]
def wtakeC_0 : VW := (VW.done ((BE.le (IE.cel .i64 (LE.rom 1) (IE.var .i64 2) 1) (IE.var .i64 4)) :: pctakeC_0) (some []))
def wtakeC_1 : VW := (VW.done ((BE.not (BE.le (IE.cel .i64 (LE.rom 1) (IE.var .i64 2) 1) (IE.var .i64 4))) :: pctakeC_0) (some []))
def vwtakeC : List VW := [wtakeC_0, wtakeC_1]
end
theorem vctakeC_0 : VD TTtakeC (st0 cTakeC) wtakeC_0 := by
  intro ρ kn hp
  exact all_nil
theorem vctakeC_1 : VD TTtakeC (st0 cTakeC) wtakeC_1 := by
  intro ρ kn hp
  exact all_nil
theorem told_takeC : Sx.Told lnk.Φ cTakeC := told_vw (cs := [cStamp, cRight]) (all_cons told_stamp (all_cons told_right (all_nil))) 6000 vwtakeC (by kernel_rfl) (by kernel_rfl) (by kernel_rfl) (post_nil rfl) (by kernel_rfl) (by kernel_rfl) (all_cons vctakeC_0 (all_cons vctakeC_1 (all_nil)))
noncomputable section
abbrev TTtakeD : Tab := T lnk.Φ cTakeD.roms [cStamp, cRight]
def pctakeD_0 : List BE := [(BE.lit true), (BE.le (IE.lit 1) (IE.var .i64 1)), (BE.le (IE.var .i64 1) (IE.lit 1099511627776)), (BE.le (IE.lit 1) (IE.len (LE.rom 0))), (BE.le (IE.len (LE.rom 0)) (IE.lit 64)), (BE.eq (IE.len (LE.rom 1)) (IE.len (LE.rom 0))), (BE.fn 1 (AL.lst (LE.rom 0) AL.nil)), (BE.fn 2 (AL.lst (LE.rom 1) AL.nil)), (BE.fn 4 (AL.int .i64 (IE.var .i64 3) (AL.int .i64 (IE.var .i64 4) AL.nil))), (BE.le (IE.lit 0) (IE.var .i64 2)), (BE.not (BE.le (IE.len (LE.rom 0)) (IE.var .i64 2))), (BE.not (BE.le (IE.cel .i64 (LE.rom 1) (IE.var .i64 2) 0) (IE.var .i64 3)))]
def pctakeD_1 : List BE := ((BE.le (IE.cel .i64 (LE.rom 1) (IE.var .i64 2) 1) (IE.var .i64 4)) :: pctakeD_0)
def wtakeD_0 : VW := (VW.done ((BE.le (IE.var .i64 4) (IE.cel .i64 (LE.rom 1) (IE.var .i64 2) 1)) :: pctakeD_1) (some []))
def wtakeD_1 : VW := (VW.done ((BE.not (BE.le (IE.var .i64 4) (IE.cel .i64 (LE.rom 1) (IE.var .i64 2) 1))) :: pctakeD_1) (some []))
def wtakeD_2 : VW := (VW.done ((BE.not (BE.le (IE.cel .i64 (LE.rom 1) (IE.var .i64 2) 1) (IE.var .i64 4))) :: pctakeD_0) (some []))
def vwtakeD : List VW := [wtakeD_0, wtakeD_1, wtakeD_2]
end
theorem vctakeD_0 : VD TTtakeD (st0 cTakeD) wtakeD_0 := by
  intro ρ kn hp
  exact all_nil
theorem vctakeD_1 : VD TTtakeD (st0 cTakeD) wtakeD_1 := by
  intro ρ kn hp
  exact all_nil
theorem vctakeD_2 : VD TTtakeD (st0 cTakeD) wtakeD_2 := by
  intro ρ kn hp
  exact all_nil
theorem told_takeD : Sx.Told lnk.Φ cTakeD := told_vw (cs := [cStamp, cRight]) (all_cons told_stamp (all_cons told_right (all_nil))) 6000 vwtakeD (by kernel_rfl) (by kernel_rfl) (by kernel_rfl) (post_nil rfl) (by kernel_rfl) (by kernel_rfl) (all_cons vctakeD_0 (all_cons vctakeD_1 (all_cons vctakeD_2 (all_nil))))
end Go.Proofs.Ytjgkaimgocnkmaa.lnk
