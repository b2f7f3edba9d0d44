/- Layer octet: texts, told. No condition. -/
import Derived.Test.YtjgkaimgocnkmaaTa
set_option linter.unusedVariables false
set_option linter.unusedSimpArgs false
set_option linter.deprecated false
namespace Go.Proofs.Ytjgkaimgocnkmaa.oct
open Go Go.Proofs.Ytjgkaimgocnkmaa.Sx
noncomputable section
abbrev TTtext : Tab := T oct.Φ cText.roms [cNumber]
def pctext_0 : List BE := [(BE.lit true), (BE.le (IE.len (LE.var 1)) (IE.lit 2000))]
def pctext_1 : List BE := ((BE.not (BE.le (IE.lit 128) (IE.len (LE.var 1)))) :: pctext_0)
def wtext_0 : VW := (VW.done ((BE.le (IE.lit 128) (IE.len (LE.var 1))) :: pctext_0) (some [(G.i (IE.len (LE.cat (LE.fn 1 (AL.int .u64 (IE.len (LE.var 1)) AL.nil)) (LE.var 1))) (IE.add (IE.lit 2) (IE.len (LE.var 1)))), (G.i (IE.len (LE.cat (LE.fn 1 (AL.int .u64 (IE.len (LE.var 1)) AL.nil)) (LE.var 1))) (IE.add (IE.lit 2) (IE.len (LE.var 1)))), (G.l (LE.cat (LE.fn 1 (AL.int .u64 (IE.len (LE.var 1)) AL.nil)) (LE.var 1)) (LE.cat (LE.cat (LE.one (AL.int .u8 (IE.bin BinOp.or .u8 (IE.wrap .u8 (IE.len (LE.var 1))) (IE.lit 128)) AL.nil)) (LE.one (AL.int .u8 (IE.wrap .u8 (IE.bin BinOp.shr .u64 (IE.len (LE.var 1)) (IE.lit 7))) AL.nil))) (LE.var 1))), (G.i (IE.len (LE.cat (LE.fn 1 (AL.int .u64 (IE.len (LE.var 1)) AL.nil)) (LE.var 1))) (IE.add (IE.lit 2) (IE.len (LE.var 1))))]))
def wtext_1 : VW := (VW.done ((BE.le (IE.add (IE.lit 1) (IE.len (LE.var 1))) (IE.lit 1)) :: pctext_1) (some [(G.i (IE.len (LE.cat (LE.fn 1 (AL.int .u64 (IE.len (LE.var 1)) AL.nil)) (LE.var 1))) (IE.add (IE.lit 1) (IE.len (LE.var 1)))), (G.i (IE.len (LE.cat (LE.fn 1 (AL.int .u64 (IE.len (LE.var 1)) AL.nil)) (LE.var 1))) (IE.add (IE.lit 1) (IE.len (LE.var 1)))), (G.l (LE.cat (LE.fn 1 (AL.int .u64 (IE.len (LE.var 1)) AL.nil)) (LE.var 1)) (LE.cat (LE.cat (LE.one (AL.int .u8 (IE.len (LE.var 1)) AL.nil)) (LE.var 1)) (LE.drop (LE.one (AL.int .u8 (IE.len (LE.var 1)) AL.nil)) (IE.add (IE.lit 1) (IE.len (LE.var 1)))))), (G.i (IE.len (LE.cat (LE.fn 1 (AL.int .u64 (IE.len (LE.var 1)) AL.nil)) (LE.var 1))) (IE.lit 1))]))
def wtext_2 : VW := (VW.done ((BE.not (BE.le (IE.add (IE.lit 1) (IE.len (LE.var 1))) (IE.lit 1))) :: pctext_1) (some [(G.i (IE.len (LE.cat (LE.fn 1 (AL.int .u64 (IE.len (LE.var 1)) AL.nil)) (LE.var 1))) (IE.add (IE.lit 1) (IE.len (LE.var 1)))), (G.i (IE.len (LE.cat (LE.fn 1 (AL.int .u64 (IE.len (LE.var 1)) AL.nil)) (LE.var 1))) (IE.add (IE.lit 1) (IE.len (LE.var 1)))), (G.l (LE.cat (LE.fn 1 (AL.int .u64 (IE.len (LE.var 1)) AL.nil)) (LE.var 1)) (LE.cat (LE.one (AL.int .u8 (IE.len (LE.var 1)) AL.nil)) (LE.var 1))), (G.i (IE.len (LE.cat (LE.fn 1 (AL.int .u64 (IE.len (LE.var 1)) AL.nil)) (LE.var 1))) (IE.add (IE.lit 1) (IE.len (LE.var 1))))]))
def vwtext : List VW := [wtext_0, wtext_1, wtext_2]
end
theorem vctext_0 : VD TTtext (st0 cText) wtext_0 := by
  intro ρ kn hp
  have hF : ρ.z.F = oct.Φ := kn.F
  simp only [h_nil, h_cons, d_le, d_eq, d_not, d_var, d_lit, d_cel, d_leq, d_fn, d_and, d_iff, IE.den, LE.den, AL.den, lenV, true_and, and_true, pctext_0, hF, pi2, pi3, pi4, pi5, pi6, pi7, pl1] at hp
  obtain ⟨p1, p2⟩ := hp
  refine all_cons (show ((((ρ.z.F.l 1 [.int .u64 (((ρ.l 1).length : Nat) : Int)]) ++ (ρ.l 1)).length : Nat) : Int) = ((2 : Int) + (((ρ.l 1).length : Nat) : Int)) from ?_) (all_cons (show ((((ρ.z.F.l 1 [.int .u64 (((ρ.l 1).length : Nat) : Int)]) ++ (ρ.l 1)).length : Nat) : Int) = ((2 : Int) + (((ρ.l 1).length : Nat) : Int)) from ?_) (all_cons (show ((ρ.z.F.l 1 [.int .u64 (((ρ.l 1).length : Nat) : Int)]) ++ (ρ.l 1)) = ((([[Go.Value.int .u8 (binI BinOp.or .u8 (IntKind.wrap .u8 (((ρ.l 1).length : Nat) : Int)) (128 : Int))]] : LV) ++ ([[Go.Value.int .u8 (IntKind.wrap .u8 (binI BinOp.shr .u64 (((ρ.l 1).length : Nat) : Int) (7 : Int)))]] : LV)) ++ (ρ.l 1)) from ?_) (all_cons (show ((((ρ.z.F.l 1 [.int .u64 (((ρ.l 1).length : Nat) : Int)]) ++ (ρ.l 1)).length : Nat) : Int) = ((2 : Int) + (((ρ.l 1).length : Nat) : Int)) from ?_) (all_nil))))
  all_goals try simp only [hF, pi2, pi3, pi4, pi5, pi6, pi7, pl1]
  all_goals
    have hc : clampK .u64 ((ρ.l 1).length : Int) = ((ρ.l 1).length : Int) := u64_in ⟨by omega, by omega⟩
    have hl := num_len ((ρ.l 1).length : Int)
    simp only [pl1, hc] at *
    have e : numL ((ρ.l 1).length : Int) = rowB [128 + ((ρ.l 1).length : Int) % 128, ((ρ.l 1).length : Int) / 128] := by
      generalize ((ρ.l 1).length : Int) = n at *
      rw [show numL n = rowB (numF 9 n) from rfl]
      rw [numF_up (f := 8) (n := n) (by omega)]
      rw [numF_end (n := n / 128) (by omega)]
    try rw [e]
    first
      | rfl
      | (rw [List.drop_of_length_le (by first | omega | (simp only [List.length_append, List.length_cons, List.length_nil, rowB_len]; omega)), List.append_nil]; done)
      | (rw [List.drop_of_length_le (by first | omega | (simp only [List.length_append, List.length_cons, List.length_nil, rowB_len]; omega)), List.append_nil]; rfl)
      | (simp only [List.length_append, rowB_len, List.length_cons, List.length_nil]; omega)
      | (simp (disch := omega) only [shr7, or_low, rowB_cons, rowB_one]; try simp (disch := omega) only [wrap_low]; first | rfl | done | simp only [List.append_assoc])
theorem vctext_1 : VD TTtext (st0 cText) wtext_1 := by
  intro ρ kn hp
  have hF : ρ.z.F = oct.Φ := kn.F
  simp only [h_nil, h_cons, d_le, d_eq, d_not, d_var, d_lit, d_cel, d_leq, d_fn, d_and, d_iff, IE.den, LE.den, AL.den, lenV, true_and, and_true, pctext_1, pctext_0, hF, pi2, pi3, pi4, pi5, pi6, pi7, pl1] at hp
  obtain ⟨p1, p2, p3⟩ := hp
  refine all_cons (show ((((ρ.z.F.l 1 [.int .u64 (((ρ.l 1).length : Nat) : Int)]) ++ (ρ.l 1)).length : Nat) : Int) = ((1 : Int) + (((ρ.l 1).length : Nat) : Int)) from ?_) (all_cons (show ((((ρ.z.F.l 1 [.int .u64 (((ρ.l 1).length : Nat) : Int)]) ++ (ρ.l 1)).length : Nat) : Int) = ((1 : Int) + (((ρ.l 1).length : Nat) : Int)) from ?_) (all_cons (show ((ρ.z.F.l 1 [.int .u64 (((ρ.l 1).length : Nat) : Int)]) ++ (ρ.l 1)) = ((([[Go.Value.int .u8 (((ρ.l 1).length : Nat) : Int)]] : LV) ++ (ρ.l 1)) ++ (([[Go.Value.int .u8 (((ρ.l 1).length : Nat) : Int)]] : LV).drop ((1 : Int) + (((ρ.l 1).length : Nat) : Int)).toNat)) from ?_) (all_cons (show ((((ρ.z.F.l 1 [.int .u64 (((ρ.l 1).length : Nat) : Int)]) ++ (ρ.l 1)).length : Nat) : Int) = (1 : Int) from ?_) (all_nil))))
  all_goals try simp only [hF, pi2, pi3, pi4, pi5, pi6, pi7, pl1]
  all_goals
    have hc : clampK .u64 ((ρ.l 1).length : Int) = ((ρ.l 1).length : Int) := u64_in ⟨by omega, by omega⟩
    have hl := num_len ((ρ.l 1).length : Int)
    simp only [pl1, hc] at *
    have e : numL ((ρ.l 1).length : Int) = rowB [((ρ.l 1).length : Int)] := by
      generalize ((ρ.l 1).length : Int) = n at *
      rw [show numL n = rowB (numF 9 n) from rfl]
      rw [numF_end (n := n) (by omega)]
    try rw [e]
    first
      | rfl
      | (rw [List.drop_of_length_le (by first | omega | (simp only [List.length_append, List.length_cons, List.length_nil, rowB_len]; omega)), List.append_nil]; done)
      | (rw [List.drop_of_length_le (by first | omega | (simp only [List.length_append, List.length_cons, List.length_nil, rowB_len]; omega)), List.append_nil]; rfl)
      | (simp only [List.length_append, rowB_len, List.length_cons, List.length_nil]; omega)
      | (simp (disch := omega) only [shr7, or_low, rowB_cons, rowB_one]; try simp (disch := omega) only [wrap_low]; first | rfl | done | simp only [List.append_assoc])
theorem vctext_2 : VD TTtext (st0 cText) wtext_2 := by
  intro ρ kn hp
  have hF : ρ.z.F = oct.Φ := kn.F
  simp only [h_nil, h_cons, d_le, d_eq, d_not, d_var, d_lit, d_cel, d_leq, d_fn, d_and, d_iff, IE.den, LE.den, AL.den, lenV, true_and, and_true, pctext_1, pctext_0, hF, pi2, pi3, pi4, pi5, pi6, pi7, pl1] at hp
  obtain ⟨p1, p2, p3⟩ := hp
  refine all_cons (show ((((ρ.z.F.l 1 [.int .u64 (((ρ.l 1).length : Nat) : Int)]) ++ (ρ.l 1)).length : Nat) : Int) = ((1 : Int) + (((ρ.l 1).length : Nat) : Int)) from ?_) (all_cons (show ((((ρ.z.F.l 1 [.int .u64 (((ρ.l 1).length : Nat) : Int)]) ++ (ρ.l 1)).length : Nat) : Int) = ((1 : Int) + (((ρ.l 1).length : Nat) : Int)) from ?_) (all_cons (show ((ρ.z.F.l 1 [.int .u64 (((ρ.l 1).length : Nat) : Int)]) ++ (ρ.l 1)) = (([[Go.Value.int .u8 (((ρ.l 1).length : Nat) : Int)]] : LV) ++ (ρ.l 1)) from ?_) (all_cons (show ((((ρ.z.F.l 1 [.int .u64 (((ρ.l 1).length : Nat) : Int)]) ++ (ρ.l 1)).length : Nat) : Int) = ((1 : Int) + (((ρ.l 1).length : Nat) : Int)) from ?_) (all_nil))))
  all_goals try simp only [hF, pi2, pi3, pi4, pi5, pi6, pi7, pl1]
  all_goals
    have hc : clampK .u64 ((ρ.l 1).length : Int) = ((ρ.l 1).length : Int) := u64_in ⟨by omega, by omega⟩
    have hl := num_len ((ρ.l 1).length : Int)
    simp only [pl1, hc] at *
    have e : numL ((ρ.l 1).length : Int) = rowB [((ρ.l 1).length : Int)] := by
      generalize ((ρ.l 1).length : Int) = n at *
      rw [show numL n = rowB (numF 9 n) from rfl]
      rw [numF_end (n := n) (by omega)]
    try rw [e]
    first
      | rfl
      | (rw [List.drop_of_length_le (by first | omega | (simp only [List.length_append, List.length_cons, List.length_nil, rowB_len]; omega)), List.append_nil]; done)
      | (rw [List.drop_of_length_le (by first | omega | (simp only [List.length_append, List.length_cons, List.length_nil, rowB_len]; omega)), List.append_nil]; rfl)
      | (simp only [List.length_append, rowB_len, List.length_cons, List.length_nil]; omega)
      | (simp (disch := omega) only [shr7, or_low, rowB_cons, rowB_one]; try simp (disch := omega) only [wrap_low]; first | rfl | done | simp only [List.append_assoc])
theorem told_text : Sx.Told oct.Φ cText := told_vw (cs := [cNumber]) (all_cons told_number (all_nil)) 3000 vwtext (by kernel_rfl) (by kernel_rfl) (by kernel_rfl) (post_nil rfl) (by kernel_rfl) (by kernel_rfl) (all_cons vctext_0 (all_cons vctext_1 (all_cons vctext_2 (all_nil))))
noncomputable section
abbrev TTrtext : Tab := T oct.Φ cRText.roms [cRNumber]
def pcrtext_0 : List BE := [(BE.le (IE.lit 1) (IE.len (LE.fn 1 (AL.int .u64 (IE.len (LE.var 1)) AL.nil)))), (BE.le (IE.len (LE.fn 1 (AL.int .u64 (IE.len (LE.var 1)) AL.nil))) (IE.lit 10)), (BE.lit true), (BE.le (IE.len (LE.var 1)) (IE.lit 2000))]
def wrtext_0 : VW := (VW.done ((BE.le (IE.add (IE.len (LE.fn 1 (AL.int .u64 (IE.len (LE.var 1)) AL.nil))) (IE.len (LE.var 1))) (IE.len (LE.fn 1 (AL.int .u64 (IE.len (LE.var 1)) AL.nil)))) :: pcrtext_0) (some [(G.i (IE.len (LE.cat (LE.fn 1 (AL.int .u64 (IE.len (LE.var 1)) AL.nil)) (LE.var 1))) (IE.add (IE.len (LE.fn 1 (AL.int .u64 (IE.len (LE.var 1)) AL.nil))) (IE.len (LE.var 1)))), (G.l (LE.cat (LE.fn 1 (AL.int .u64 (IE.len (LE.var 1)) AL.nil)) (LE.var 1)) (LE.cat (LE.cat (LE.fn 1 (AL.int .u64 (IE.len (LE.var 1)) AL.nil)) (LE.var 1)) (LE.drop (LE.fn 1 (AL.int .u64 (IE.len (LE.var 1)) AL.nil)) (IE.add (IE.len (LE.fn 1 (AL.int .u64 (IE.len (LE.var 1)) AL.nil))) (IE.len (LE.var 1)))))), (G.i (IE.len (LE.cat (LE.fn 1 (AL.int .u64 (IE.len (LE.var 1)) AL.nil)) (LE.var 1))) (IE.len (LE.fn 1 (AL.int .u64 (IE.len (LE.var 1)) AL.nil))))]))
def wrtext_1 : VW := (VW.done ((BE.not (BE.le (IE.add (IE.len (LE.fn 1 (AL.int .u64 (IE.len (LE.var 1)) AL.nil))) (IE.len (LE.var 1))) (IE.len (LE.fn 1 (AL.int .u64 (IE.len (LE.var 1)) AL.nil))))) :: pcrtext_0) (some [(G.i (IE.len (LE.cat (LE.fn 1 (AL.int .u64 (IE.len (LE.var 1)) AL.nil)) (LE.var 1))) (IE.add (IE.len (LE.fn 1 (AL.int .u64 (IE.len (LE.var 1)) AL.nil))) (IE.len (LE.var 1)))), (G.i (IE.len (LE.cat (LE.fn 1 (AL.int .u64 (IE.len (LE.var 1)) AL.nil)) (LE.var 1))) (IE.add (IE.len (LE.fn 1 (AL.int .u64 (IE.len (LE.var 1)) AL.nil))) (IE.len (LE.var 1))))]))
def vwrtext : List VW := [wrtext_0, wrtext_1]
end
theorem vcrtext_0 : VD TTrtext (st0 cRText) wrtext_0 := by
  intro ρ kn hp
  have hF : ρ.z.F = oct.Φ := kn.F
  simp only [h_nil, h_cons, d_le, d_eq, d_not, d_var, d_lit, d_cel, d_leq, d_fn, d_and, d_iff, IE.den, LE.den, AL.den, lenV, true_and, and_true, pcrtext_0, hF, pi2, pi3, pi4, pi5, pi6, pi7, pl1] at hp
  obtain ⟨p1, p2, p3, p4⟩ := hp
  refine all_cons (show ((((ρ.z.F.l 1 [.int .u64 (((ρ.l 1).length : Nat) : Int)]) ++ (ρ.l 1)).length : Nat) : Int) = ((((ρ.z.F.l 1 [.int .u64 (((ρ.l 1).length : Nat) : Int)]).length : Nat) : Int) + (((ρ.l 1).length : Nat) : Int)) from ?_) (all_cons (show ((ρ.z.F.l 1 [.int .u64 (((ρ.l 1).length : Nat) : Int)]) ++ (ρ.l 1)) = (((ρ.z.F.l 1 [.int .u64 (((ρ.l 1).length : Nat) : Int)]) ++ (ρ.l 1)) ++ ((ρ.z.F.l 1 [.int .u64 (((ρ.l 1).length : Nat) : Int)]).drop ((((ρ.z.F.l 1 [.int .u64 (((ρ.l 1).length : Nat) : Int)]).length : Nat) : Int) + (((ρ.l 1).length : Nat) : Int)).toNat)) from ?_) (all_cons (show ((((ρ.z.F.l 1 [.int .u64 (((ρ.l 1).length : Nat) : Int)]) ++ (ρ.l 1)).length : Nat) : Int) = (((ρ.z.F.l 1 [.int .u64 (((ρ.l 1).length : Nat) : Int)]).length : Nat) : Int) from ?_) (all_nil)))
  all_goals try simp only [hF, pi2, pi3, pi4, pi5, pi6, pi7, pl1]
  all_goals
    have hc : clampK .u64 ((ρ.l 1).length : Int) = ((ρ.l 1).length : Int) := u64_in ⟨by omega, by omega⟩
    have hl := num_len ((ρ.l 1).length : Int)
    simp only [pl1, hc] at *
    first
      | (rw [List.drop_of_length_le (by first | omega | (simp only [List.length_append, List.length_cons, List.length_nil, rowB_len]; omega)), List.append_nil]; done)
      | (rw [List.drop_of_length_le (by first | omega | (simp only [List.length_append, List.length_cons, List.length_nil, rowB_len]; omega)), List.append_nil]; rfl)
      | (simp only [List.length_append]; done)
      | (simp only [List.length_append]; omega)
      | omega
      | trace_state
theorem vcrtext_1 : VD TTrtext (st0 cRText) wrtext_1 := by
  intro ρ kn hp
  have hF : ρ.z.F = oct.Φ := kn.F
  simp only [h_nil, h_cons, d_le, d_eq, d_not, d_var, d_lit, d_cel, d_leq, d_fn, d_and, d_iff, IE.den, LE.den, AL.den, lenV, true_and, and_true, pcrtext_0, hF, pi2, pi3, pi4, pi5, pi6, pi7, pl1] at hp
  obtain ⟨p1, p2, p3, p4⟩ := hp
  refine all_cons (show ((((ρ.z.F.l 1 [.int .u64 (((ρ.l 1).length : Nat) : Int)]) ++ (ρ.l 1)).length : Nat) : Int) = ((((ρ.z.F.l 1 [.int .u64 (((ρ.l 1).length : Nat) : Int)]).length : Nat) : Int) + (((ρ.l 1).length : Nat) : Int)) from ?_) (all_cons (show ((((ρ.z.F.l 1 [.int .u64 (((ρ.l 1).length : Nat) : Int)]) ++ (ρ.l 1)).length : Nat) : Int) = ((((ρ.z.F.l 1 [.int .u64 (((ρ.l 1).length : Nat) : Int)]).length : Nat) : Int) + (((ρ.l 1).length : Nat) : Int)) from ?_) (all_nil))
  all_goals try simp only [hF, pi2, pi3, pi4, pi5, pi6, pi7, pl1]
  all_goals
    have hc : clampK .u64 ((ρ.l 1).length : Int) = ((ρ.l 1).length : Int) := u64_in ⟨by omega, by omega⟩
    have hl := num_len ((ρ.l 1).length : Int)
    simp only [pl1, hc] at *
    first
      | (rw [List.drop_of_length_le (by first | omega | (simp only [List.length_append, List.length_cons, List.length_nil, rowB_len]; omega)), List.append_nil]; done)
      | (rw [List.drop_of_length_le (by first | omega | (simp only [List.length_append, List.length_cons, List.length_nil, rowB_len]; omega)), List.append_nil]; rfl)
      | (simp only [List.length_append]; done)
      | (simp only [List.length_append]; omega)
      | omega
      | trace_state
theorem told_rtext : Sx.Told oct.Φ cRText := told_vw (cs := [cRNumber]) (all_cons told_rnumber (all_nil)) 2000 vwrtext (by kernel_rfl) (by kernel_rfl) (by kernel_rfl) (post_nil rfl) (by kernel_rfl) (by kernel_rfl) (all_cons vcrtext_0 (all_cons vcrtext_1 (all_nil)))
end Go.Proofs.Ytjgkaimgocnkmaa.oct
