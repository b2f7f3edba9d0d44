/- Layer call: answers. No condition. -/
import Derived.Test.YthenenacmiiphaaCb
set_option linter.unusedVariables false
set_option linter.unusedSimpArgs false
set_option linter.deprecated false
namespace Go.Proofs.Ythenenacmiiphaa.oct
open Go Go.Proofs.Ythenenacmiiphaa.Sx
noncomputable section
abbrev TTtld : Tab := T oct.Φ cTold.roms [cShp, cShpN, cNumber, cSigned]
abbrev ttld1 : LE := LE.fn 9 (AL.int .i64 (IE.var .i64 4) (AL.int .i64 (IE.var .i64 5) (AL.int .i64 (IE.var .i64 6) (AL.int .i64 (IE.var .i64 7) (AL.int .i64 (IE.var .i64 8) AL.nil)))))
abbrev ttld2 : LE := LE.fn 1 (AL.int .u64 (IE.fn .u64 2 (AL.int .i64 (IE.var .i64 8) AL.nil)) AL.nil)
abbrev ttld3 : LE := LE.cat (LE.cat (LE.cat (LE.cat (LE.fn 1 (AL.int .u64 (IE.var .i64 4) AL.nil)) (LE.fn 1 (AL.int .u64 (IE.var .i64 5) AL.nil))) (LE.fn 1 (AL.int .u64 (IE.var .i64 6) AL.nil))) (LE.fn 1 (AL.int .u64 (IE.var .i64 7) AL.nil))) ttld2
abbrev ttld4 : IE := IE.len (LE.fn 1 (AL.int .u64 (IE.var .i64 7) AL.nil))
abbrev ttld5 : IE := IE.len (LE.fn 1 (AL.int .u64 (IE.var .i64 6) AL.nil))
abbrev ttld6 : IE := IE.len (LE.fn 1 (AL.int .u64 (IE.var .i64 5) AL.nil))
abbrev ttld7 : IE := IE.len (LE.fn 1 (AL.int .u64 (IE.var .i64 4) AL.nil))
abbrev ttld8 : BE := BE.le (IE.var .i64 5) (IE.wrap .i64 (IE.sub (IE.var .i64 3) (IE.lit 1)))
abbrev ttld9 : BE := BE.le (IE.var .i64 6) (IE.lit 1099511627776)
abbrev ttld10 : BE := BE.fn 10 (AL.int .i64 (IE.var .i64 1) (AL.int .i64 (IE.var .i64 2) (AL.int .i64 (IE.var .i64 3) AL.nil)))
abbrev ttld0 : IE := IE.add (IE.add (IE.add (IE.add ttld7 ttld6) ttld5) ttld4) (IE.len ttld2)
abbrev pctld_0 : List BE := [(BE.lit true), (BE.fn 12 (AL.int .i64 (IE.var .i64 1) (AL.int .i64 (IE.var .i64 2) (AL.int .i64 (IE.var .i64 3) (AL.int .i64 (IE.var .i64 4) (AL.int .i64 (IE.var .i64 5) (AL.int .i64 (IE.var .i64 6) (AL.int .i64 (IE.var .i64 7) AL.nil))))))))]
abbrev pctld_1 : List BE := (ttld10 :: pctld_0)
abbrev pctld_2 : List BE := ((BE.eq (IE.var .i64 5) (IE.lit 0)) :: pctld_1)
abbrev pctld_3 : List BE := ((BE.not (BE.eq (IE.var .i64 5) (IE.lit 0))) :: pctld_1)
abbrev pctld_4 : List BE := ((BE.le (IE.lit 0) (IE.var .i64 4)) :: pctld_2)
abbrev pctld_5 : List BE := ((BE.le (IE.lit 0) (IE.var .i64 4)) :: pctld_3)
abbrev pctld_6 : List BE := ((BE.le (IE.var .i64 4) (IE.lit 999)) :: pctld_4)
abbrev pctld_7 : List BE := ((BE.le (IE.var .i64 4) (IE.lit 999)) :: pctld_5)
abbrev pctld_8 : List BE := (ttld8 :: pctld_6)
abbrev pctld_9 : List BE := ((BE.le (IE.lit 0) (IE.var .i64 5)) :: pctld_7)
abbrev pctld_10 : List BE := ((BE.le (IE.lit 0) (IE.var .i64 6)) :: pctld_8)
abbrev pctld_11 : List BE := (ttld8 :: pctld_9)
abbrev pctld_12 : List BE := (ttld9 :: pctld_10)
abbrev pctld_13 : List BE := ((BE.le (IE.lit 0) (IE.var .i64 6)) :: pctld_11)
abbrev pctld_14 : List BE := ((BE.le (IE.lit 0) (IE.var .i64 7)) :: pctld_12)
abbrev pctld_15 : List BE := (ttld9 :: pctld_13)
abbrev pctld_16 : List BE := ((BE.le (IE.var .i64 7) (IE.lit 5)) :: pctld_14)
abbrev pctld_17 : List BE := ((BE.le (IE.lit 0) (IE.var .i64 7)) :: pctld_15)
abbrev pctld_18 : List BE := ((BE.le (IE.var .i64 7) (IE.lit 5)) :: pctld_17)
def wtld_0 : VW := (VW.done ((BE.le (IE.lit 1) (IE.len ttld2)) :: (BE.le (IE.len ttld2) (IE.lit 10)) :: (BE.le (IE.lit 1) ttld4) :: (BE.le ttld4 (IE.lit 10)) :: (BE.le (IE.lit 1) ttld5) :: (BE.le ttld5 (IE.lit 10)) :: (BE.le (IE.lit 1) ttld6) :: (BE.le ttld6 (IE.lit 10)) :: (BE.le (IE.lit 1) ttld7) :: (BE.le ttld7 (IE.lit 10)) :: (BE.eq (IE.var .i64 6) (IE.lit 0)) :: pctld_16) (some [(G.i (IE.len ttld1) ttld0), (G.l ttld1 ttld3), (G.i (IE.len ttld1) ttld0)]))
def wtld_1 : VW := (VW.done ((BE.le (IE.lit 1) (IE.len ttld2)) :: (BE.le (IE.len ttld2) (IE.lit 10)) :: (BE.le (IE.lit 1) ttld4) :: (BE.le ttld4 (IE.lit 10)) :: (BE.le (IE.lit 1) ttld5) :: (BE.le ttld5 (IE.lit 10)) :: (BE.le (IE.lit 1) ttld6) :: (BE.le ttld6 (IE.lit 10)) :: (BE.le (IE.lit 1) ttld7) :: (BE.le ttld7 (IE.lit 10)) :: (BE.not (BE.eq (IE.var .i64 6) (IE.lit 0))) :: pctld_16) (some [(G.i (IE.len ttld1) ttld0), (G.l ttld1 ttld3), (G.i (IE.len ttld1) ttld0)]))
def wtld_2 : VW := (VW.done ((BE.not (BE.le (IE.var .i64 7) (IE.lit 5))) :: pctld_14) (some [(G.b (BE.lit true) (BE.lit false))]))
def wtld_3 : VW := (VW.done ((BE.not (BE.le (IE.lit 0) (IE.var .i64 7))) :: pctld_12) (some [(G.b (BE.lit true) (BE.lit false))]))
def wtld_4 : VW := (VW.done ((BE.not ttld9) :: pctld_10) (some [(G.b (BE.lit true) (BE.lit false))]))
def wtld_5 : VW := (VW.done ((BE.not (BE.le (IE.lit 0) (IE.var .i64 6))) :: pctld_8) (some [(G.b (BE.lit true) (BE.lit false))]))
def wtld_6 : VW := (VW.done ((BE.not ttld8) :: pctld_6) (some [(G.b (BE.lit true) (BE.lit false))]))
def wtld_7 : VW := (VW.done ((BE.not (BE.le (IE.var .i64 4) (IE.lit 999))) :: pctld_4) (some [(G.b (BE.lit true) (BE.lit false))]))
def wtld_8 : VW := (VW.done ((BE.not (BE.le (IE.lit 0) (IE.var .i64 4))) :: pctld_2) (some [(G.b (BE.lit true) (BE.lit false))]))
def wtld_9 : VW := (VW.done ((BE.le (IE.var .i64 6) (IE.lit 0)) :: pctld_18) (some [(G.b (BE.lit true) (BE.lit false))]))
def wtld_10 : VW := (VW.done ((BE.le (IE.lit 1) (IE.len ttld2)) :: (BE.le (IE.len ttld2) (IE.lit 10)) :: (BE.le (IE.lit 1) ttld4) :: (BE.le ttld4 (IE.lit 10)) :: (BE.le (IE.lit 1) ttld5) :: (BE.le ttld5 (IE.lit 10)) :: (BE.le (IE.lit 1) ttld6) :: (BE.le ttld6 (IE.lit 10)) :: (BE.le (IE.lit 1) ttld7) :: (BE.le ttld7 (IE.lit 10)) :: (BE.not (BE.le (IE.var .i64 6) (IE.lit 0))) :: pctld_18) (some [(G.i (IE.len ttld1) ttld0), (G.l ttld1 ttld3), (G.i (IE.len ttld1) ttld0)]))
def wtld_11 : VW := (VW.done ((BE.not (BE.le (IE.var .i64 7) (IE.lit 5))) :: pctld_17) (some [(G.b (BE.lit true) (BE.lit false))]))
def wtld_12 : VW := (VW.done ((BE.not (BE.le (IE.lit 0) (IE.var .i64 7))) :: pctld_15) (some [(G.b (BE.lit true) (BE.lit false))]))
def wtld_13 : VW := (VW.done ((BE.not ttld9) :: pctld_13) (some [(G.b (BE.lit true) (BE.lit false))]))
def wtld_14 : VW := (VW.done ((BE.not (BE.le (IE.lit 0) (IE.var .i64 6))) :: pctld_11) (some [(G.b (BE.lit true) (BE.lit false))]))
def wtld_15 : VW := (VW.done ((BE.not ttld8) :: pctld_9) (some [(G.b (BE.lit true) (BE.lit false))]))
def wtld_16 : VW := (VW.done ((BE.not (BE.le (IE.lit 0) (IE.var .i64 5))) :: pctld_7) (some [(G.b (BE.lit true) (BE.lit false))]))
def wtld_17 : VW := (VW.done ((BE.not (BE.le (IE.var .i64 4) (IE.lit 999))) :: pctld_5) (some [(G.b (BE.lit true) (BE.lit false))]))
def wtld_18 : VW := (VW.done ((BE.not (BE.le (IE.lit 0) (IE.var .i64 4))) :: pctld_3) (some [(G.b (BE.lit true) (BE.lit false))]))
def wtld_19 : VW := (VW.done ((BE.not ttld10) :: pctld_0) (some [(G.b (BE.lit true) (BE.lit false))]))
def vwtld : List VW := [wtld_0, wtld_1, wtld_2, wtld_3, wtld_4, wtld_5, wtld_6, wtld_7, wtld_8, wtld_9, wtld_10, wtld_11, wtld_12, wtld_13, wtld_14, wtld_15, wtld_16, wtld_17, wtld_18, wtld_19]
end
theorem vctld_0 : VD TTtld (st0 cTold) wtld_0 := by
  intro ρ kn hp
  have hF : ρ.z.F = oct.Φ := kn.F
  simp only [h_nil, h_cons, d_le, d_eq, d_not, d_lit, d_fn, IE.den, LE.den, AL.den, lenV, true_and, and_true, hF, pi2, pl1, pb10, pb11, pb12, pl7, pl9, pl1, pb10, pb11, pb12, pl7, pl9] at hp
  obtain ⟨_, _, _, _, _, _, _, _, _, _, _, _, _, _, _, _, _, _, _, _, _⟩ := hp
  refine all_cons (show (((ρ.z.F.l 9 [.int .i64 (ρ.i .i64 4), .int .i64 (ρ.i .i64 5), .int .i64 (ρ.i .i64 6), .int .i64 (ρ.i .i64 7), .int .i64 (ρ.i .i64 8)]).length : Nat) : Int) = (((((((ρ.z.F.l 1 [.int .u64 (ρ.i .i64 4)]).length : Nat) : Int) + (((ρ.z.F.l 1 [.int .u64 (ρ.i .i64 5)]).length : Nat) : Int)) + (((ρ.z.F.l 1 [.int .u64 (ρ.i .i64 6)]).length : Nat) : Int)) + (((ρ.z.F.l 1 [.int .u64 (ρ.i .i64 7)]).length : Nat) : Int)) + (((ρ.z.F.l 1 [.int .u64 (clampK .u64 (ρ.z.F.i 2 [.int .i64 (ρ.i .i64 8)]))]).length : Nat) : Int)) from ?_) (all_cons (show (ρ.z.F.l 9 [.int .i64 (ρ.i .i64 4), .int .i64 (ρ.i .i64 5), .int .i64 (ρ.i .i64 6), .int .i64 (ρ.i .i64 7), .int .i64 (ρ.i .i64 8)]) = (((((ρ.z.F.l 1 [.int .u64 (ρ.i .i64 4)]) ++ (ρ.z.F.l 1 [.int .u64 (ρ.i .i64 5)])) ++ (ρ.z.F.l 1 [.int .u64 (ρ.i .i64 6)])) ++ (ρ.z.F.l 1 [.int .u64 (ρ.i .i64 7)])) ++ (ρ.z.F.l 1 [.int .u64 (clampK .u64 (ρ.z.F.i 2 [.int .i64 (ρ.i .i64 8)]))])) from ?_) (all_cons (show (((ρ.z.F.l 9 [.int .i64 (ρ.i .i64 4), .int .i64 (ρ.i .i64 5), .int .i64 (ρ.i .i64 6), .int .i64 (ρ.i .i64 7), .int .i64 (ρ.i .i64 8)]).length : Nat) : Int) = (((((((ρ.z.F.l 1 [.int .u64 (ρ.i .i64 4)]).length : Nat) : Int) + (((ρ.z.F.l 1 [.int .u64 (ρ.i .i64 5)]).length : Nat) : Int)) + (((ρ.z.F.l 1 [.int .u64 (ρ.i .i64 6)]).length : Nat) : Int)) + (((ρ.z.F.l 1 [.int .u64 (ρ.i .i64 7)]).length : Nat) : Int)) + (((ρ.z.F.l 1 [.int .u64 (clampK .u64 (ρ.z.F.i 2 [.int .i64 (ρ.i .i64 8)]))]).length : Nat) : Int)) from ?_) (all_nil)))
  all_goals try simp only [hF, pi2, pl1, pb10, pb11, pb12, pl7, pl9, pl1, pb10, pb11, pb12, pl7, pl9]
  all_goals
    obtain ⟨q0, q⟩ := ans_b (by assumption)
    first
      | (exfalso; exact absurd q0 (by assumption))
      | (obtain ⟨b1, b2, b3⟩ := shp_b q0
         try rw [wrap_1 (x := ρ.i .i64 2) (by omega)] at *
         try rw [wrap_1 (x := ρ.i .i64 3) (by omega)] at *
         exfalso
         omega)
      | (have c8 := tw_rng (i64_rng kn.ok 8)
         rw [ansL_e]
         try simp only [c8]
         try simp only [List.length_append, Int.natCast_add, List.append_assoc]
         first
           | done
           | omega
           | rfl)
theorem vctld_1 : VD TTtld (st0 cTold) wtld_1 := by
  intro ρ kn hp
  have hF : ρ.z.F = oct.Φ := kn.F
  simp only [h_nil, h_cons, d_le, d_eq, d_not, d_lit, d_fn, IE.den, LE.den, AL.den, lenV, true_and, and_true, hF, pi2, pl1, pb10, pb11, pb12, pl7, pl9, pl1, pb10, pb11, pb12, pl7, pl9] at hp
  obtain ⟨_, _, _, _, _, _, _, _, _, _, _, _, _, _, _, _, _, _, _, _, _⟩ := hp
  refine all_cons (show (((ρ.z.F.l 9 [.int .i64 (ρ.i .i64 4), .int .i64 (ρ.i .i64 5), .int .i64 (ρ.i .i64 6), .int .i64 (ρ.i .i64 7), .int .i64 (ρ.i .i64 8)]).length : Nat) : Int) = (((((((ρ.z.F.l 1 [.int .u64 (ρ.i .i64 4)]).length : Nat) : Int) + (((ρ.z.F.l 1 [.int .u64 (ρ.i .i64 5)]).length : Nat) : Int)) + (((ρ.z.F.l 1 [.int .u64 (ρ.i .i64 6)]).length : Nat) : Int)) + (((ρ.z.F.l 1 [.int .u64 (ρ.i .i64 7)]).length : Nat) : Int)) + (((ρ.z.F.l 1 [.int .u64 (clampK .u64 (ρ.z.F.i 2 [.int .i64 (ρ.i .i64 8)]))]).length : Nat) : Int)) from ?_) (all_cons (show (ρ.z.F.l 9 [.int .i64 (ρ.i .i64 4), .int .i64 (ρ.i .i64 5), .int .i64 (ρ.i .i64 6), .int .i64 (ρ.i .i64 7), .int .i64 (ρ.i .i64 8)]) = (((((ρ.z.F.l 1 [.int .u64 (ρ.i .i64 4)]) ++ (ρ.z.F.l 1 [.int .u64 (ρ.i .i64 5)])) ++ (ρ.z.F.l 1 [.int .u64 (ρ.i .i64 6)])) ++ (ρ.z.F.l 1 [.int .u64 (ρ.i .i64 7)])) ++ (ρ.z.F.l 1 [.int .u64 (clampK .u64 (ρ.z.F.i 2 [.int .i64 (ρ.i .i64 8)]))])) from ?_) (all_cons (show (((ρ.z.F.l 9 [.int .i64 (ρ.i .i64 4), .int .i64 (ρ.i .i64 5), .int .i64 (ρ.i .i64 6), .int .i64 (ρ.i .i64 7), .int .i64 (ρ.i .i64 8)]).length : Nat) : Int) = (((((((ρ.z.F.l 1 [.int .u64 (ρ.i .i64 4)]).length : Nat) : Int) + (((ρ.z.F.l 1 [.int .u64 (ρ.i .i64 5)]).length : Nat) : Int)) + (((ρ.z.F.l 1 [.int .u64 (ρ.i .i64 6)]).length : Nat) : Int)) + (((ρ.z.F.l 1 [.int .u64 (ρ.i .i64 7)]).length : Nat) : Int)) + (((ρ.z.F.l 1 [.int .u64 (clampK .u64 (ρ.z.F.i 2 [.int .i64 (ρ.i .i64 8)]))]).length : Nat) : Int)) from ?_) (all_nil)))
  all_goals try simp only [hF, pi2, pl1, pb10, pb11, pb12, pl7, pl9, pl1, pb10, pb11, pb12, pl7, pl9]
  all_goals
    obtain ⟨q0, q⟩ := ans_b (by assumption)
    first
      | (exfalso; exact absurd q0 (by assumption))
      | (obtain ⟨b1, b2, b3⟩ := shp_b q0
         try rw [wrap_1 (x := ρ.i .i64 2) (by omega)] at *
         try rw [wrap_1 (x := ρ.i .i64 3) (by omega)] at *
         exfalso
         omega)
      | (have c8 := tw_rng (i64_rng kn.ok 8)
         rw [ansL_e]
         try simp only [c8]
         try simp only [List.length_append, Int.natCast_add, List.append_assoc]
         first
           | done
           | omega
           | rfl)
theorem vctld_2 : VD TTtld (st0 cTold) wtld_2 := by
  intro ρ kn hp
  have hF : ρ.z.F = oct.Φ := kn.F
  simp only [h_nil, h_cons, d_le, d_eq, d_not, d_lit, d_fn, IE.den, LE.den, AL.den, lenV, true_and, and_true, hF, pi2, pl1, pb10, pb11, pb12, pl7, pl9, pl1, pb10, pb11, pb12, pl7, pl9] at hp
  obtain ⟨_, _, _, _, _, _, _, _, _, _⟩ := hp
  exfalso
  all_goals
    obtain ⟨q0, q⟩ := ans_b (by assumption)
    first
      | (exfalso; exact absurd q0 (by assumption))
      | (obtain ⟨b1, b2, b3⟩ := shp_b q0
         try rw [wrap_1 (x := ρ.i .i64 2) (by omega)] at *
         try rw [wrap_1 (x := ρ.i .i64 3) (by omega)] at *
         exfalso
         omega)
theorem vctld_3 : VD TTtld (st0 cTold) wtld_3 := by
  intro ρ kn hp
  have hF : ρ.z.F = oct.Φ := kn.F
  simp only [h_nil, h_cons, d_le, d_eq, d_not, d_lit, d_fn, IE.den, LE.den, AL.den, lenV, true_and, and_true, hF, pi2, pl1, pb10, pb11, pb12, pl7, pl9, pl1, pb10, pb11, pb12, pl7, pl9] at hp
  obtain ⟨_, _, _, _, _, _, _, _, _⟩ := hp
  exfalso
  all_goals
    obtain ⟨q0, q⟩ := ans_b (by assumption)
    first
      | (exfalso; exact absurd q0 (by assumption))
      | (obtain ⟨b1, b2, b3⟩ := shp_b q0
         try rw [wrap_1 (x := ρ.i .i64 2) (by omega)] at *
         try rw [wrap_1 (x := ρ.i .i64 3) (by omega)] at *
         exfalso
         omega)
theorem vctld_4 : VD TTtld (st0 cTold) wtld_4 := by
  intro ρ kn hp
  have hF : ρ.z.F = oct.Φ := kn.F
  simp only [h_nil, h_cons, d_le, d_eq, d_not, d_lit, d_fn, IE.den, LE.den, AL.den, lenV, true_and, and_true, hF, pi2, pl1, pb10, pb11, pb12, pl7, pl9, pl1, pb10, pb11, pb12, pl7, pl9] at hp
  obtain ⟨_, _, _, _, _, _, _, _⟩ := hp
  exfalso
  all_goals
    obtain ⟨q0, q⟩ := ans_b (by assumption)
    first
      | (exfalso; exact absurd q0 (by assumption))
      | (obtain ⟨b1, b2, b3⟩ := shp_b q0
         try rw [wrap_1 (x := ρ.i .i64 2) (by omega)] at *
         try rw [wrap_1 (x := ρ.i .i64 3) (by omega)] at *
         exfalso
         omega)
theorem vctld_5 : VD TTtld (st0 cTold) wtld_5 := by
  intro ρ kn hp
  have hF : ρ.z.F = oct.Φ := kn.F
  simp only [h_nil, h_cons, d_le, d_eq, d_not, d_lit, d_fn, IE.den, LE.den, AL.den, lenV, true_and, and_true, hF, pi2, pl1, pb10, pb11, pb12, pl7, pl9, pl1, pb10, pb11, pb12, pl7, pl9] at hp
  obtain ⟨_, _, _, _, _, _, _⟩ := hp
  exfalso
  all_goals
    obtain ⟨q0, q⟩ := ans_b (by assumption)
    first
      | (exfalso; exact absurd q0 (by assumption))
      | (obtain ⟨b1, b2, b3⟩ := shp_b q0
         try rw [wrap_1 (x := ρ.i .i64 2) (by omega)] at *
         try rw [wrap_1 (x := ρ.i .i64 3) (by omega)] at *
         exfalso
         omega)
theorem vctld_6 : VD TTtld (st0 cTold) wtld_6 := by
  intro ρ kn hp
  have hF : ρ.z.F = oct.Φ := kn.F
  simp only [h_nil, h_cons, d_le, d_eq, d_not, d_lit, d_fn, IE.den, LE.den, AL.den, lenV, true_and, and_true, hF, pi2, pl1, pb10, pb11, pb12, pl7, pl9, pl1, pb10, pb11, pb12, pl7, pl9] at hp
  obtain ⟨_, _, _, _, _, _⟩ := hp
  exfalso
  all_goals
    obtain ⟨q0, q⟩ := ans_b (by assumption)
    first
      | (exfalso; exact absurd q0 (by assumption))
      | (obtain ⟨b1, b2, b3⟩ := shp_b q0
         try rw [wrap_1 (x := ρ.i .i64 2) (by omega)] at *
         try rw [wrap_1 (x := ρ.i .i64 3) (by omega)] at *
         exfalso
         omega)
theorem vctld_7 : VD TTtld (st0 cTold) wtld_7 := by
  intro ρ kn hp
  have hF : ρ.z.F = oct.Φ := kn.F
  simp only [h_nil, h_cons, d_le, d_eq, d_not, d_lit, d_fn, IE.den, LE.den, AL.den, lenV, true_and, and_true, hF, pi2, pl1, pb10, pb11, pb12, pl7, pl9, pl1, pb10, pb11, pb12, pl7, pl9] at hp
  obtain ⟨_, _, _, _, _⟩ := hp
  exfalso
  all_goals
    obtain ⟨q0, q⟩ := ans_b (by assumption)
    first
      | (exfalso; exact absurd q0 (by assumption))
      | (obtain ⟨b1, b2, b3⟩ := shp_b q0
         try rw [wrap_1 (x := ρ.i .i64 2) (by omega)] at *
         try rw [wrap_1 (x := ρ.i .i64 3) (by omega)] at *
         exfalso
         omega)
theorem vctld_8 : VD TTtld (st0 cTold) wtld_8 := by
  intro ρ kn hp
  have hF : ρ.z.F = oct.Φ := kn.F
  simp only [h_nil, h_cons, d_le, d_eq, d_not, d_lit, d_fn, IE.den, LE.den, AL.den, lenV, true_and, and_true, hF, pi2, pl1, pb10, pb11, pb12, pl7, pl9, pl1, pb10, pb11, pb12, pl7, pl9] at hp
  obtain ⟨_, _, _, _⟩ := hp
  exfalso
  all_goals
    obtain ⟨q0, q⟩ := ans_b (by assumption)
    first
      | (exfalso; exact absurd q0 (by assumption))
      | (obtain ⟨b1, b2, b3⟩ := shp_b q0
         try rw [wrap_1 (x := ρ.i .i64 2) (by omega)] at *
         try rw [wrap_1 (x := ρ.i .i64 3) (by omega)] at *
         exfalso
         omega)
theorem vctld_9 : VD TTtld (st0 cTold) wtld_9 := by
  intro ρ kn hp
  have hF : ρ.z.F = oct.Φ := kn.F
  simp only [h_nil, h_cons, d_le, d_eq, d_not, d_lit, d_fn, IE.den, LE.den, AL.den, lenV, true_and, and_true, hF, pi2, pl1, pb10, pb11, pb12, pl7, pl9, pl1, pb10, pb11, pb12, pl7, pl9] at hp
  obtain ⟨_, _, _, _, _, _, _, _, _, _, _, _⟩ := hp
  exfalso
  all_goals
    obtain ⟨q0, q⟩ := ans_b (by assumption)
    first
      | (exfalso; exact absurd q0 (by assumption))
      | (obtain ⟨b1, b2, b3⟩ := shp_b q0
         try rw [wrap_1 (x := ρ.i .i64 2) (by omega)] at *
         try rw [wrap_1 (x := ρ.i .i64 3) (by omega)] at *
         exfalso
         omega)
theorem vctld_10 : VD TTtld (st0 cTold) wtld_10 := by
  intro ρ kn hp
  have hF : ρ.z.F = oct.Φ := kn.F
  simp only [h_nil, h_cons, d_le, d_eq, d_not, d_lit, d_fn, IE.den, LE.den, AL.den, lenV, true_and, and_true, hF, pi2, pl1, pb10, pb11, pb12, pl7, pl9, pl1, pb10, pb11, pb12, pl7, pl9] at hp
  obtain ⟨_, _, _, _, _, _, _, _, _, _, _, _, _, _, _, _, _, _, _, _, _, _⟩ := hp
  refine all_cons (show (((ρ.z.F.l 9 [.int .i64 (ρ.i .i64 4), .int .i64 (ρ.i .i64 5), .int .i64 (ρ.i .i64 6), .int .i64 (ρ.i .i64 7), .int .i64 (ρ.i .i64 8)]).length : Nat) : Int) = (((((((ρ.z.F.l 1 [.int .u64 (ρ.i .i64 4)]).length : Nat) : Int) + (((ρ.z.F.l 1 [.int .u64 (ρ.i .i64 5)]).length : Nat) : Int)) + (((ρ.z.F.l 1 [.int .u64 (ρ.i .i64 6)]).length : Nat) : Int)) + (((ρ.z.F.l 1 [.int .u64 (ρ.i .i64 7)]).length : Nat) : Int)) + (((ρ.z.F.l 1 [.int .u64 (clampK .u64 (ρ.z.F.i 2 [.int .i64 (ρ.i .i64 8)]))]).length : Nat) : Int)) from ?_) (all_cons (show (ρ.z.F.l 9 [.int .i64 (ρ.i .i64 4), .int .i64 (ρ.i .i64 5), .int .i64 (ρ.i .i64 6), .int .i64 (ρ.i .i64 7), .int .i64 (ρ.i .i64 8)]) = (((((ρ.z.F.l 1 [.int .u64 (ρ.i .i64 4)]) ++ (ρ.z.F.l 1 [.int .u64 (ρ.i .i64 5)])) ++ (ρ.z.F.l 1 [.int .u64 (ρ.i .i64 6)])) ++ (ρ.z.F.l 1 [.int .u64 (ρ.i .i64 7)])) ++ (ρ.z.F.l 1 [.int .u64 (clampK .u64 (ρ.z.F.i 2 [.int .i64 (ρ.i .i64 8)]))])) from ?_) (all_cons (show (((ρ.z.F.l 9 [.int .i64 (ρ.i .i64 4), .int .i64 (ρ.i .i64 5), .int .i64 (ρ.i .i64 6), .int .i64 (ρ.i .i64 7), .int .i64 (ρ.i .i64 8)]).length : Nat) : Int) = (((((((ρ.z.F.l 1 [.int .u64 (ρ.i .i64 4)]).length : Nat) : Int) + (((ρ.z.F.l 1 [.int .u64 (ρ.i .i64 5)]).length : Nat) : Int)) + (((ρ.z.F.l 1 [.int .u64 (ρ.i .i64 6)]).length : Nat) : Int)) + (((ρ.z.F.l 1 [.int .u64 (ρ.i .i64 7)]).length : Nat) : Int)) + (((ρ.z.F.l 1 [.int .u64 (clampK .u64 (ρ.z.F.i 2 [.int .i64 (ρ.i .i64 8)]))]).length : Nat) : Int)) from ?_) (all_nil)))
  all_goals try simp only [hF, pi2, pl1, pb10, pb11, pb12, pl7, pl9, pl1, pb10, pb11, pb12, pl7, pl9]
  all_goals
    obtain ⟨q0, q⟩ := ans_b (by assumption)
    first
      | (exfalso; exact absurd q0 (by assumption))
      | (obtain ⟨b1, b2, b3⟩ := shp_b q0
         try rw [wrap_1 (x := ρ.i .i64 2) (by omega)] at *
         try rw [wrap_1 (x := ρ.i .i64 3) (by omega)] at *
         exfalso
         omega)
      | (have c8 := tw_rng (i64_rng kn.ok 8)
         rw [ansL_e]
         try simp only [c8]
         try simp only [List.length_append, Int.natCast_add, List.append_assoc]
         first
           | done
           | omega
           | rfl)
theorem vctld_11 : VD TTtld (st0 cTold) wtld_11 := by
  intro ρ kn hp
  have hF : ρ.z.F = oct.Φ := kn.F
  simp only [h_nil, h_cons, d_le, d_eq, d_not, d_lit, d_fn, IE.den, LE.den, AL.den, lenV, true_and, and_true, hF, pi2, pl1, pb10, pb11, pb12, pl7, pl9, pl1, pb10, pb11, pb12, pl7, pl9] at hp
  obtain ⟨_, _, _, _, _, _, _, _, _, _, _⟩ := hp
  exfalso
  all_goals
    obtain ⟨q0, q⟩ := ans_b (by assumption)
    first
      | (exfalso; exact absurd q0 (by assumption))
      | (obtain ⟨b1, b2, b3⟩ := shp_b q0
         try rw [wrap_1 (x := ρ.i .i64 2) (by omega)] at *
         try rw [wrap_1 (x := ρ.i .i64 3) (by omega)] at *
         exfalso
         omega)
theorem vctld_12 : VD TTtld (st0 cTold) wtld_12 := by
  intro ρ kn hp
  have hF : ρ.z.F = oct.Φ := kn.F
  simp only [h_nil, h_cons, d_le, d_eq, d_not, d_lit, d_fn, IE.den, LE.den, AL.den, lenV, true_and, and_true, hF, pi2, pl1, pb10, pb11, pb12, pl7, pl9, pl1, pb10, pb11, pb12, pl7, pl9] at hp
  obtain ⟨_, _, _, _, _, _, _, _, _, _⟩ := hp
  exfalso
  all_goals
    obtain ⟨q0, q⟩ := ans_b (by assumption)
    first
      | (exfalso; exact absurd q0 (by assumption))
      | (obtain ⟨b1, b2, b3⟩ := shp_b q0
         try rw [wrap_1 (x := ρ.i .i64 2) (by omega)] at *
         try rw [wrap_1 (x := ρ.i .i64 3) (by omega)] at *
         exfalso
         omega)
theorem vctld_13 : VD TTtld (st0 cTold) wtld_13 := by
  intro ρ kn hp
  have hF : ρ.z.F = oct.Φ := kn.F
  simp only [h_nil, h_cons, d_le, d_eq, d_not, d_lit, d_fn, IE.den, LE.den, AL.den, lenV, true_and, and_true, hF, pi2, pl1, pb10, pb11, pb12, pl7, pl9, pl1, pb10, pb11, pb12, pl7, pl9] at hp
  obtain ⟨_, _, _, _, _, _, _, _, _⟩ := hp
  exfalso
  all_goals
    obtain ⟨q0, q⟩ := ans_b (by assumption)
    first
      | (exfalso; exact absurd q0 (by assumption))
      | (obtain ⟨b1, b2, b3⟩ := shp_b q0
         try rw [wrap_1 (x := ρ.i .i64 2) (by omega)] at *
         try rw [wrap_1 (x := ρ.i .i64 3) (by omega)] at *
         exfalso
         omega)
theorem vctld_14 : VD TTtld (st0 cTold) wtld_14 := by
  intro ρ kn hp
  have hF : ρ.z.F = oct.Φ := kn.F
  simp only [h_nil, h_cons, d_le, d_eq, d_not, d_lit, d_fn, IE.den, LE.den, AL.den, lenV, true_and, and_true, hF, pi2, pl1, pb10, pb11, pb12, pl7, pl9, pl1, pb10, pb11, pb12, pl7, pl9] at hp
  obtain ⟨_, _, _, _, _, _, _, _⟩ := hp
  exfalso
  all_goals
    obtain ⟨q0, q⟩ := ans_b (by assumption)
    first
      | (exfalso; exact absurd q0 (by assumption))
      | (obtain ⟨b1, b2, b3⟩ := shp_b q0
         try rw [wrap_1 (x := ρ.i .i64 2) (by omega)] at *
         try rw [wrap_1 (x := ρ.i .i64 3) (by omega)] at *
         exfalso
         omega)
theorem vctld_15 : VD TTtld (st0 cTold) wtld_15 := by
  intro ρ kn hp
  have hF : ρ.z.F = oct.Φ := kn.F
  simp only [h_nil, h_cons, d_le, d_eq, d_not, d_lit, d_fn, IE.den, LE.den, AL.den, lenV, true_and, and_true, hF, pi2, pl1, pb10, pb11, pb12, pl7, pl9, pl1, pb10, pb11, pb12, pl7, pl9] at hp
  obtain ⟨_, _, _, _, _, _, _⟩ := hp
  exfalso
  all_goals
    obtain ⟨q0, q⟩ := ans_b (by assumption)
    first
      | (exfalso; exact absurd q0 (by assumption))
      | (obtain ⟨b1, b2, b3⟩ := shp_b q0
         try rw [wrap_1 (x := ρ.i .i64 2) (by omega)] at *
         try rw [wrap_1 (x := ρ.i .i64 3) (by omega)] at *
         exfalso
         omega)
theorem vctld_16 : VD TTtld (st0 cTold) wtld_16 := by
  intro ρ kn hp
  have hF : ρ.z.F = oct.Φ := kn.F
  simp only [h_nil, h_cons, d_le, d_eq, d_not, d_lit, d_fn, IE.den, LE.den, AL.den, lenV, true_and, and_true, hF, pi2, pl1, pb10, pb11, pb12, pl7, pl9, pl1, pb10, pb11, pb12, pl7, pl9] at hp
  obtain ⟨_, _, _, _, _, _⟩ := hp
  exfalso
  all_goals
    obtain ⟨q0, q⟩ := ans_b (by assumption)
    first
      | (exfalso; exact absurd q0 (by assumption))
      | (obtain ⟨b1, b2, b3⟩ := shp_b q0
         try rw [wrap_1 (x := ρ.i .i64 2) (by omega)] at *
         try rw [wrap_1 (x := ρ.i .i64 3) (by omega)] at *
         exfalso
         omega)
theorem vctld_17 : VD TTtld (st0 cTold) wtld_17 := by
  intro ρ kn hp
  have hF : ρ.z.F = oct.Φ := kn.F
  simp only [h_nil, h_cons, d_le, d_eq, d_not, d_lit, d_fn, IE.den, LE.den, AL.den, lenV, true_and, and_true, hF, pi2, pl1, pb10, pb11, pb12, pl7, pl9, pl1, pb10, pb11, pb12, pl7, pl9] at hp
  obtain ⟨_, _, _, _, _⟩ := hp
  exfalso
  all_goals
    obtain ⟨q0, q⟩ := ans_b (by assumption)
    first
      | (exfalso; exact absurd q0 (by assumption))
      | (obtain ⟨b1, b2, b3⟩ := shp_b q0
         try rw [wrap_1 (x := ρ.i .i64 2) (by omega)] at *
         try rw [wrap_1 (x := ρ.i .i64 3) (by omega)] at *
         exfalso
         omega)
theorem vctld_18 : VD TTtld (st0 cTold) wtld_18 := by
  intro ρ kn hp
  have hF : ρ.z.F = oct.Φ := kn.F
  simp only [h_nil, h_cons, d_le, d_eq, d_not, d_lit, d_fn, IE.den, LE.den, AL.den, lenV, true_and, and_true, hF, pi2, pl1, pb10, pb11, pb12, pl7, pl9, pl1, pb10, pb11, pb12, pl7, pl9] at hp
  obtain ⟨_, _, _, _⟩ := hp
  exfalso
  all_goals
    obtain ⟨q0, q⟩ := ans_b (by assumption)
    first
      | (exfalso; exact absurd q0 (by assumption))
      | (obtain ⟨b1, b2, b3⟩ := shp_b q0
         try rw [wrap_1 (x := ρ.i .i64 2) (by omega)] at *
         try rw [wrap_1 (x := ρ.i .i64 3) (by omega)] at *
         exfalso
         omega)
theorem vctld_19 : VD TTtld (st0 cTold) wtld_19 := by
  intro ρ kn hp
  have hF : ρ.z.F = oct.Φ := kn.F
  simp only [h_nil, h_cons, d_le, d_eq, d_not, d_lit, d_fn, IE.den, LE.den, AL.den, lenV, true_and, and_true, hF, pi2, pl1, pb10, pb11, pb12, pl7, pl9, pl1, pb10, pb11, pb12, pl7, pl9] at hp
  obtain ⟨_, _⟩ := hp
  exfalso
  all_goals
    obtain ⟨q0, q⟩ := ans_b (by assumption)
    first
      | (exfalso; exact absurd q0 (by assumption))
      | (obtain ⟨b1, b2, b3⟩ := shp_b q0
         try rw [wrap_1 (x := ρ.i .i64 2) (by omega)] at *
         try rw [wrap_1 (x := ρ.i .i64 3) (by omega)] at *
         exfalso
         omega)
theorem told_tld : Sx.Told oct.Φ cTold := told_vw (cs := [cShp, cShpN, cNumber, cSigned]) (all_cons told_shp (all_cons told_shpn (all_cons told_number (all_cons told_signed (all_nil))))) 9000 vwtld (by kernel_rfl) (by kernel_rfl) (by kernel_rfl) post_told (by kernel_rfl) (by kernel_rfl) (all_cons vctld_0 (all_cons vctld_1 (all_cons vctld_2 (all_cons vctld_3 (all_cons vctld_4 (all_cons vctld_5 (all_cons vctld_6 (all_cons vctld_7 (all_cons vctld_8 (all_cons vctld_9 (all_cons vctld_10 (all_cons vctld_11 (all_cons vctld_12 (all_cons vctld_13 (all_cons vctld_14 (all_cons vctld_15 (all_cons vctld_16 (all_cons vctld_17 (all_cons vctld_18 (all_cons vctld_19 (all_nil)))))))))))))))))))))
noncomputable section
abbrev TTtldn : Tab := T oct.Φ cToldN.roms [cShp, cShpN, cNumber, cSigned]
abbrev ttldn0 : IE := IE.len (LE.fn 1 (AL.int .u64 (IE.fn .u64 2 (AL.int .i64 (IE.var .i64 8) AL.nil)) AL.nil))
abbrev ttldn1 : IE := IE.len (LE.fn 1 (AL.int .u64 (IE.var .i64 7) AL.nil))
abbrev ttldn2 : IE := IE.len (LE.fn 1 (AL.int .u64 (IE.var .i64 6) AL.nil))
abbrev ttldn3 : IE := IE.len (LE.fn 1 (AL.int .u64 (IE.var .i64 5) AL.nil))
abbrev ttldn4 : IE := IE.len (LE.fn 1 (AL.int .u64 (IE.var .i64 4) AL.nil))
abbrev ttldn5 : BE := BE.le (IE.var .i64 5) (IE.wrap .i64 (IE.sub (IE.var .i64 3) (IE.lit 1)))
abbrev ttldn6 : BE := BE.le (IE.var .i64 6) (IE.lit 1099511627776)
abbrev ttldn7 : BE := BE.fn 10 (AL.int .i64 (IE.var .i64 1) (AL.int .i64 (IE.var .i64 2) (AL.int .i64 (IE.var .i64 3) AL.nil)))
abbrev pctldn_0 : List BE := [(BE.lit true), (BE.not (BE.fn 12 (AL.int .i64 (IE.var .i64 1) (AL.int .i64 (IE.var .i64 2) (AL.int .i64 (IE.var .i64 3) (AL.int .i64 (IE.var .i64 4) (AL.int .i64 (IE.var .i64 5) (AL.int .i64 (IE.var .i64 6) (AL.int .i64 (IE.var .i64 7) AL.nil)))))))))]
abbrev pctldn_1 : List BE := (ttldn7 :: pctldn_0)
abbrev pctldn_2 : List BE := ((BE.eq (IE.var .i64 5) (IE.lit 0)) :: pctldn_1)
abbrev pctldn_3 : List BE := ((BE.not (BE.eq (IE.var .i64 5) (IE.lit 0))) :: pctldn_1)
abbrev pctldn_4 : List BE := ((BE.le (IE.lit 0) (IE.var .i64 4)) :: pctldn_2)
abbrev pctldn_5 : List BE := ((BE.le (IE.lit 0) (IE.var .i64 4)) :: pctldn_3)
abbrev pctldn_6 : List BE := ((BE.le (IE.var .i64 4) (IE.lit 999)) :: pctldn_4)
abbrev pctldn_7 : List BE := ((BE.le (IE.var .i64 4) (IE.lit 999)) :: pctldn_5)
abbrev pctldn_8 : List BE := (ttldn5 :: pctldn_6)
abbrev pctldn_9 : List BE := ((BE.le (IE.lit 0) (IE.var .i64 5)) :: pctldn_7)
abbrev pctldn_10 : List BE := ((BE.le (IE.lit 0) (IE.var .i64 6)) :: pctldn_8)
abbrev pctldn_11 : List BE := (ttldn5 :: pctldn_9)
abbrev pctldn_12 : List BE := (ttldn6 :: pctldn_10)
abbrev pctldn_13 : List BE := ((BE.le (IE.lit 0) (IE.var .i64 6)) :: pctldn_11)
abbrev pctldn_14 : List BE := ((BE.le (IE.lit 0) (IE.var .i64 7)) :: pctldn_12)
abbrev pctldn_15 : List BE := (ttldn6 :: pctldn_13)
abbrev pctldn_16 : List BE := ((BE.le (IE.var .i64 7) (IE.lit 5)) :: pctldn_14)
abbrev pctldn_17 : List BE := ((BE.le (IE.lit 0) (IE.var .i64 7)) :: pctldn_15)
abbrev pctldn_18 : List BE := ((BE.le (IE.var .i64 7) (IE.lit 5)) :: pctldn_17)
def wtldn_0 : VW := (VW.done ((BE.le (IE.lit 1) ttldn0) :: (BE.le ttldn0 (IE.lit 10)) :: (BE.le (IE.lit 1) ttldn1) :: (BE.le ttldn1 (IE.lit 10)) :: (BE.le (IE.lit 1) ttldn2) :: (BE.le ttldn2 (IE.lit 10)) :: (BE.le (IE.lit 1) ttldn3) :: (BE.le ttldn3 (IE.lit 10)) :: (BE.le (IE.lit 1) ttldn4) :: (BE.le ttldn4 (IE.lit 10)) :: (BE.eq (IE.var .i64 6) (IE.lit 0)) :: pctldn_16) (some [(G.b (BE.lit true) (BE.lit false))]))
def wtldn_1 : VW := (VW.done ((BE.le (IE.lit 1) ttldn0) :: (BE.le ttldn0 (IE.lit 10)) :: (BE.le (IE.lit 1) ttldn1) :: (BE.le ttldn1 (IE.lit 10)) :: (BE.le (IE.lit 1) ttldn2) :: (BE.le ttldn2 (IE.lit 10)) :: (BE.le (IE.lit 1) ttldn3) :: (BE.le ttldn3 (IE.lit 10)) :: (BE.le (IE.lit 1) ttldn4) :: (BE.le ttldn4 (IE.lit 10)) :: (BE.not (BE.eq (IE.var .i64 6) (IE.lit 0))) :: pctldn_16) (some [(G.b (BE.lit true) (BE.lit false))]))
def wtldn_2 : VW := (VW.done ((BE.not (BE.le (IE.var .i64 7) (IE.lit 5))) :: pctldn_14) (some []))
def wtldn_3 : VW := (VW.done ((BE.not (BE.le (IE.lit 0) (IE.var .i64 7))) :: pctldn_12) (some []))
def wtldn_4 : VW := (VW.done ((BE.not ttldn6) :: pctldn_10) (some []))
def wtldn_5 : VW := (VW.done ((BE.not (BE.le (IE.lit 0) (IE.var .i64 6))) :: pctldn_8) (some []))
def wtldn_6 : VW := (VW.done ((BE.not ttldn5) :: pctldn_6) (some []))
def wtldn_7 : VW := (VW.done ((BE.not (BE.le (IE.var .i64 4) (IE.lit 999))) :: pctldn_4) (some []))
def wtldn_8 : VW := (VW.done ((BE.not (BE.le (IE.lit 0) (IE.var .i64 4))) :: pctldn_2) (some []))
def wtldn_9 : VW := (VW.done ((BE.le (IE.var .i64 6) (IE.lit 0)) :: pctldn_18) (some []))
def wtldn_10 : VW := (VW.done ((BE.le (IE.lit 1) ttldn0) :: (BE.le ttldn0 (IE.lit 10)) :: (BE.le (IE.lit 1) ttldn1) :: (BE.le ttldn1 (IE.lit 10)) :: (BE.le (IE.lit 1) ttldn2) :: (BE.le ttldn2 (IE.lit 10)) :: (BE.le (IE.lit 1) ttldn3) :: (BE.le ttldn3 (IE.lit 10)) :: (BE.le (IE.lit 1) ttldn4) :: (BE.le ttldn4 (IE.lit 10)) :: (BE.not (BE.le (IE.var .i64 6) (IE.lit 0))) :: pctldn_18) (some [(G.b (BE.lit true) (BE.lit false))]))
def wtldn_11 : VW := (VW.done ((BE.not (BE.le (IE.var .i64 7) (IE.lit 5))) :: pctldn_17) (some []))
def wtldn_12 : VW := (VW.done ((BE.not (BE.le (IE.lit 0) (IE.var .i64 7))) :: pctldn_15) (some []))
def wtldn_13 : VW := (VW.done ((BE.not ttldn6) :: pctldn_13) (some []))
def wtldn_14 : VW := (VW.done ((BE.not (BE.le (IE.lit 0) (IE.var .i64 6))) :: pctldn_11) (some []))
def wtldn_15 : VW := (VW.done ((BE.not ttldn5) :: pctldn_9) (some []))
def wtldn_16 : VW := (VW.done ((BE.not (BE.le (IE.lit 0) (IE.var .i64 5))) :: pctldn_7) (some []))
def wtldn_17 : VW := (VW.done ((BE.not (BE.le (IE.var .i64 4) (IE.lit 999))) :: pctldn_5) (some []))
def wtldn_18 : VW := (VW.done ((BE.not (BE.le (IE.lit 0) (IE.var .i64 4))) :: pctldn_3) (some []))
def wtldn_19 : VW := (VW.done ((BE.not ttldn7) :: pctldn_0) (some []))
def vwtldn : List VW := [wtldn_0, wtldn_1, wtldn_2, wtldn_3, wtldn_4, wtldn_5, wtldn_6, wtldn_7, wtldn_8, wtldn_9, wtldn_10, wtldn_11, wtldn_12, wtldn_13, wtldn_14, wtldn_15, wtldn_16, wtldn_17, wtldn_18, wtldn_19]
end
theorem vctldn_0 : VD TTtldn (st0 cToldN) wtldn_0 := by
 intro ρ kn hp
 have hF : ρ.z.F = oct.Φ := kn.F
 simp only [h_nil, h_cons, d_le, d_eq, d_not, d_lit, d_fn, IE.den, LE.den, AL.den, lenV, true_and, and_true, hF, pi2, pl1, pb10, pb11, pb12, pl7, pl9, pl1, pb10, pb11, pb12, pl7, pl9] at hp
 obtain ⟨_, _, _, _, _, _, _, _, _, _, _, _, _, _, _, _, _, _, _, _, _⟩ := hp
 exfalso
 all_goals
  exfalso
  have q0 : shpR (ρ.i .i64 1) (ρ.i .i64 2) (ρ.i .i64 3) = true := by assumption
  have q := ans_n (by assumption) q0
  obtain ⟨b1, b2, b3⟩ := shp_b q0
  try rw [wrap_1 (x := ρ.i .i64 2) (by omega)] at *
  try rw [wrap_1 (x := ρ.i .i64 3) (by omega)] at *
  omega
theorem vctldn_1 : VD TTtldn (st0 cToldN) wtldn_1 := by
 intro ρ kn hp
 have hF : ρ.z.F = oct.Φ := kn.F
 simp only [h_nil, h_cons, d_le, d_eq, d_not, d_lit, d_fn, IE.den, LE.den, AL.den, lenV, true_and, and_true, hF, pi2, pl1, pb10, pb11, pb12, pl7, pl9, pl1, pb10, pb11, pb12, pl7, pl9] at hp
 obtain ⟨_, _, _, _, _, _, _, _, _, _, _, _, _, _, _, _, _, _, _, _, _⟩ := hp
 exfalso
 all_goals
  exfalso
  have q0 : shpR (ρ.i .i64 1) (ρ.i .i64 2) (ρ.i .i64 3) = true := by assumption
  have q := ans_n (by assumption) q0
  obtain ⟨b1, b2, b3⟩ := shp_b q0
  try rw [wrap_1 (x := ρ.i .i64 2) (by omega)] at *
  try rw [wrap_1 (x := ρ.i .i64 3) (by omega)] at *
  omega
theorem vctldn_2 : VD TTtldn (st0 cToldN) wtldn_2 := by
 intro ρ kn hp
 exact all_nil
theorem vctldn_3 : VD TTtldn (st0 cToldN) wtldn_3 := by
 intro ρ kn hp
 exact all_nil
theorem vctldn_4 : VD TTtldn (st0 cToldN) wtldn_4 := by
 intro ρ kn hp
 exact all_nil
theorem vctldn_5 : VD TTtldn (st0 cToldN) wtldn_5 := by
 intro ρ kn hp
 exact all_nil
theorem vctldn_6 : VD TTtldn (st0 cToldN) wtldn_6 := by
 intro ρ kn hp
 exact all_nil
theorem vctldn_7 : VD TTtldn (st0 cToldN) wtldn_7 := by
 intro ρ kn hp
 exact all_nil
theorem vctldn_8 : VD TTtldn (st0 cToldN) wtldn_8 := by
 intro ρ kn hp
 exact all_nil
theorem vctldn_9 : VD TTtldn (st0 cToldN) wtldn_9 := by
 intro ρ kn hp
 exact all_nil
theorem vctldn_10 : VD TTtldn (st0 cToldN) wtldn_10 := by
 intro ρ kn hp
 have hF : ρ.z.F = oct.Φ := kn.F
 simp only [h_nil, h_cons, d_le, d_eq, d_not, d_lit, d_fn, IE.den, LE.den, AL.den, lenV, true_and, and_true, hF, pi2, pl1, pb10, pb11, pb12, pl7, pl9, pl1, pb10, pb11, pb12, pl7, pl9] at hp
 obtain ⟨_, _, _, _, _, _, _, _, _, _, _, _, _, _, _, _, _, _, _, _, _, _⟩ := hp
 exfalso
 all_goals
  exfalso
  have q0 : shpR (ρ.i .i64 1) (ρ.i .i64 2) (ρ.i .i64 3) = true := by assumption
  have q := ans_n (by assumption) q0
  obtain ⟨b1, b2, b3⟩ := shp_b q0
  try rw [wrap_1 (x := ρ.i .i64 2) (by omega)] at *
  try rw [wrap_1 (x := ρ.i .i64 3) (by omega)] at *
  omega
theorem vctldn_11 : VD TTtldn (st0 cToldN) wtldn_11 := by
 intro ρ kn hp
 exact all_nil
theorem vctldn_12 : VD TTtldn (st0 cToldN) wtldn_12 := by
 intro ρ kn hp
 exact all_nil
theorem vctldn_13 : VD TTtldn (st0 cToldN) wtldn_13 := by
 intro ρ kn hp
 exact all_nil
theorem vctldn_14 : VD TTtldn (st0 cToldN) wtldn_14 := by
 intro ρ kn hp
 exact all_nil
theorem vctldn_15 : VD TTtldn (st0 cToldN) wtldn_15 := by
 intro ρ kn hp
 exact all_nil
theorem vctldn_16 : VD TTtldn (st0 cToldN) wtldn_16 := by
 intro ρ kn hp
 exact all_nil
theorem vctldn_17 : VD TTtldn (st0 cToldN) wtldn_17 := by
 intro ρ kn hp
 exact all_nil
theorem vctldn_18 : VD TTtldn (st0 cToldN) wtldn_18 := by
 intro ρ kn hp
 exact all_nil
theorem vctldn_19 : VD TTtldn (st0 cToldN) wtldn_19 := by
 intro ρ kn hp
 exact all_nil
theorem told_tldn : Sx.Told oct.Φ cToldN := told_vw (cs := [cShp, cShpN, cNumber, cSigned]) (all_cons told_shp (all_cons told_shpn (all_cons told_number (all_cons told_signed (all_nil))))) 9000 vwtldn (by kernel_rfl) (by kernel_rfl) (by kernel_rfl) (post_nil rfl) (by kernel_rfl) (by kernel_rfl) (all_cons vctldn_0 (all_cons vctldn_1 (all_cons vctldn_2 (all_cons vctldn_3 (all_cons vctldn_4 (all_cons vctldn_5 (all_cons vctldn_6 (all_cons vctldn_7 (all_cons vctldn_8 (all_cons vctldn_9 (all_cons vctldn_10 (all_cons vctldn_11 (all_cons vctldn_12 (all_cons vctldn_13 (all_cons vctldn_14 (all_cons vctldn_15 (all_cons vctldn_16 (all_cons vctldn_17 (all_cons vctldn_18 (all_cons vctldn_19 (all_nil)))))))))))))))))))))
end Go.Proofs.Ythenenacmiiphaa.oct
