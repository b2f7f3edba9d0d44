/- Layer wait: who comes and goes, told. No condition. -/
import Derived.Test.YteblnjgghbclpaaDoorWd
set_option linter.unusedVariables false
set_option linter.unusedSimpArgs false
set_option linter.deprecated false
namespace Go.Proofs.YteblnjgghbclpaaDoor.wt
open Go Go.Proofs.YteblnjgghbclpaaDoor.Sx
noncomputable section
abbrev TTaddOk : Tab := T wt.Φ cAddOk.roms [cQueueP, cQueueR, cMayP, cMayR, cRFin, cRFout, cFindIn, cFindOut, cFindNo]
def pcaddOk_0 : List BE := [(BE.lit true), (BE.le (IE.len (LE.rom 0)) (IE.lit 1000)), (BE.le (IE.lit 1) (IE.len (LE.rom 0))), (BE.eq (IE.fn .i64 5 (AL.lst (LE.rom 0) (AL.int .i64 (IE.var .i64 1) (AL.int .i64 (IE.var .i64 2) (AL.int .i64 (IE.var .i64 3) (AL.int .i64 (IE.var .i64 4) (AL.int .i64 (IE.var .i64 5) AL.nil))))))) (IE.lit 0))]
def pcaddOk_1 : List BE := ((BE.fn 4 (AL.lst (LE.rom 0) AL.nil)) :: pcaddOk_0)
def pcaddOk_2 : List BE := ((BE.fn 2 (AL.int .i64 (IE.var .i64 1) (AL.int .i64 (IE.var .i64 2) (AL.int .i64 (IE.var .i64 3) (AL.int .i64 (IE.var .i64 4) (AL.int .i64 (IE.var .i64 5) AL.nil)))))) :: pcaddOk_1)
def waddOk_0 : VW := (VW.done ((BE.le (IE.len (LE.rom 0)) (IE.fn .i64 2 (AL.lst (LE.rom 0) (AL.int .i64 (IE.var .i64 1) AL.nil)))) :: pcaddOk_2) (some [(G.i (IE.len (LE.fn 6 (AL.lst (LE.rom 0) (AL.int .i64 (IE.var .i64 1) (AL.int .i64 (IE.var .i64 2) (AL.int .i64 (IE.var .i64 3) (AL.int .i64 (IE.var .i64 4) (AL.int .i64 (IE.var .i64 5) AL.nil)))))))) (IE.add (IE.len (LE.rom 0)) (IE.lit 1))), (G.l (LE.fn 6 (AL.lst (LE.rom 0) (AL.int .i64 (IE.var .i64 1) (AL.int .i64 (IE.var .i64 2) (AL.int .i64 (IE.var .i64 3) (AL.int .i64 (IE.var .i64 4) (AL.int .i64 (IE.var .i64 5) AL.nil))))))) (LE.cat (LE.cat (LE.take (LE.cat (LE.cat (LE.take (LE.rep (AL.int .i64 (IE.lit 0) (AL.int .i64 (IE.lit 0) (AL.int .i64 (IE.lit 0) (AL.int .i64 (IE.lit 0) (AL.int .i64 (IE.lit 0) AL.nil))))) (IE.sub (IE.add (IE.add (IE.lit 0) (IE.len (LE.rom 0))) (IE.lit 1)) (IE.lit 0))) (IE.lit 0)) (LE.rom 0)) (LE.drop (LE.rep (AL.int .i64 (IE.lit 0) (AL.int .i64 (IE.lit 0) (AL.int .i64 (IE.lit 0) (AL.int .i64 (IE.lit 0) (AL.int .i64 (IE.lit 0) AL.nil))))) (IE.sub (IE.add (IE.add (IE.lit 0) (IE.len (LE.rom 0))) (IE.lit 1)) (IE.lit 0))) (IE.len (LE.rom 0)))) (IE.len (LE.rom 0))) (LE.one (AL.int .i64 (IE.var .i64 1) (AL.int .i64 (IE.var .i64 2) (AL.int .i64 (IE.var .i64 3) (AL.int .i64 (IE.var .i64 4) (AL.int .i64 (IE.var .i64 5) AL.nil))))))) (LE.drop (LE.cat (LE.cat (LE.take (LE.rep (AL.int .i64 (IE.lit 0) (AL.int .i64 (IE.lit 0) (AL.int .i64 (IE.lit 0) (AL.int .i64 (IE.lit 0) (AL.int .i64 (IE.lit 0) AL.nil))))) (IE.sub (IE.add (IE.add (IE.lit 0) (IE.len (LE.rom 0))) (IE.lit 1)) (IE.lit 0))) (IE.lit 0)) (LE.rom 0)) (LE.drop (LE.rep (AL.int .i64 (IE.lit 0) (AL.int .i64 (IE.lit 0) (AL.int .i64 (IE.lit 0) (AL.int .i64 (IE.lit 0) (AL.int .i64 (IE.lit 0) AL.nil))))) (IE.sub (IE.add (IE.add (IE.lit 0) (IE.len (LE.rom 0))) (IE.lit 1)) (IE.lit 0))) (IE.len (LE.rom 0)))) (IE.add (IE.len (LE.rom 0)) (IE.lit 1))))), (G.i (IE.len (LE.fn 6 (AL.lst (LE.rom 0) (AL.int .i64 (IE.var .i64 1) (AL.int .i64 (IE.var .i64 2) (AL.int .i64 (IE.var .i64 3) (AL.int .i64 (IE.var .i64 4) (AL.int .i64 (IE.var .i64 5) AL.nil)))))))) (IE.sub (IE.add (IE.add (IE.lit 0) (IE.len (LE.rom 0))) (IE.lit 1)) (IE.lit 0)))]))
def waddOk_1 : VW := (VW.done ((BE.le (IE.lit 0) (IE.fn .i64 2 (AL.lst (LE.rom 0) (AL.int .i64 (IE.var .i64 1) AL.nil)))) :: (BE.le (IE.fn .i64 2 (AL.lst (LE.rom 0) (AL.int .i64 (IE.var .i64 1) AL.nil))) (IE.len (LE.rom 0))) :: (BE.not (BE.le (IE.len (LE.rom 0)) (IE.fn .i64 2 (AL.lst (LE.rom 0) (AL.int .i64 (IE.var .i64 1) AL.nil))))) :: pcaddOk_2) (some [(G.b (BE.lit true) (BE.lit false))]))
def waddOk_2 : VW := (VW.done ((BE.not (BE.fn 2 (AL.int .i64 (IE.var .i64 1) (AL.int .i64 (IE.var .i64 2) (AL.int .i64 (IE.var .i64 3) (AL.int .i64 (IE.var .i64 4) (AL.int .i64 (IE.var .i64 5) AL.nil))))))) :: pcaddOk_1) (some [(G.b (BE.lit true) (BE.lit false))]))
def waddOk_3 : VW := (VW.done ((BE.not (BE.fn 4 (AL.lst (LE.rom 0) AL.nil))) :: pcaddOk_0) (some [(G.b (BE.lit true) (BE.lit false))]))
def vwaddOk : List VW := [waddOk_0, waddOk_1, waddOk_2, waddOk_3]
end
theorem vcaddOk_0 : VD TTaddOk (st0 cAddOk) waddOk_0 := by
  intro ρ kn hp
  have hF : ρ.z.F = wt.Φ := kn.F
  simp only [h_nil, h_cons, d_le, d_eq, d_not, d_var, d_lit, d_cel, d_leq, d_fn, d_and, d_iff, IE.den, LE.den, AL.den, lenV, true_and, and_true, pcaddOk_2, pcaddOk_1, pcaddOk_0, hF, pi2, pi5, pi6, pi7, pb1, pb2, pb4, pl4, pl6, pl8] at hp
  obtain ⟨p1, p2, p3, p4, p5, p6⟩ := hp
  refine all_cons (show (((ρ.z.F.l 6 [.lst (ρ.z.rl 0), .int .i64 (ρ.i .i64 1), .int .i64 (ρ.i .i64 2), .int .i64 (ρ.i .i64 3), .int .i64 (ρ.i .i64 4), .int .i64 (ρ.i .i64 5)]).length : Nat) : Int) = ((((ρ.z.rl 0).length : Nat) : Int) + (1 : Int)) from ?_) (all_cons (show (ρ.z.F.l 6 [.lst (ρ.z.rl 0), .int .i64 (ρ.i .i64 1), .int .i64 (ρ.i .i64 2), .int .i64 (ρ.i .i64 3), .int .i64 (ρ.i .i64 4), .int .i64 (ρ.i .i64 5)]) = (((((((List.replicate ((((0 : Int) + (((ρ.z.rl 0).length : Nat) : Int)) + (1 : Int)) - (0 : Int)).toNat [Go.Value.int .i64 (0 : Int), Go.Value.int .i64 (0 : Int), Go.Value.int .i64 (0 : Int), Go.Value.int .i64 (0 : Int), Go.Value.int .i64 (0 : Int)]).take (0 : Int).toNat) ++ (ρ.z.rl 0)) ++ ((List.replicate ((((0 : Int) + (((ρ.z.rl 0).length : Nat) : Int)) + (1 : Int)) - (0 : Int)).toNat [Go.Value.int .i64 (0 : Int), Go.Value.int .i64 (0 : Int), Go.Value.int .i64 (0 : Int), Go.Value.int .i64 (0 : Int), Go.Value.int .i64 (0 : Int)]).drop (((ρ.z.rl 0).length : Nat) : Int).toNat)).take (((ρ.z.rl 0).length : Nat) : Int).toNat) ++ ([[Go.Value.int .i64 (ρ.i .i64 1), Go.Value.int .i64 (ρ.i .i64 2), Go.Value.int .i64 (ρ.i .i64 3), Go.Value.int .i64 (ρ.i .i64 4), Go.Value.int .i64 (ρ.i .i64 5)]] : LV)) ++ (((((List.replicate ((((0 : Int) + (((ρ.z.rl 0).length : Nat) : Int)) + (1 : Int)) - (0 : Int)).toNat [Go.Value.int .i64 (0 : Int), Go.Value.int .i64 (0 : Int), Go.Value.int .i64 (0 : Int), Go.Value.int .i64 (0 : Int), Go.Value.int .i64 (0 : Int)]).take (0 : Int).toNat) ++ (ρ.z.rl 0)) ++ ((List.replicate ((((0 : Int) + (((ρ.z.rl 0).length : Nat) : Int)) + (1 : Int)) - (0 : Int)).toNat [Go.Value.int .i64 (0 : Int), Go.Value.int .i64 (0 : Int), Go.Value.int .i64 (0 : Int), Go.Value.int .i64 (0 : Int), Go.Value.int .i64 (0 : Int)]).drop (((ρ.z.rl 0).length : Nat) : Int).toNat)).drop ((((ρ.z.rl 0).length : Nat) : Int) + (1 : Int)).toNat)) from ?_) (all_cons (show (((ρ.z.F.l 6 [.lst (ρ.z.rl 0), .int .i64 (ρ.i .i64 1), .int .i64 (ρ.i .i64 2), .int .i64 (ρ.i .i64 3), .int .i64 (ρ.i .i64 4), .int .i64 (ρ.i .i64 5)]).length : Nat) : Int) = ((((0 : Int) + (((ρ.z.rl 0).length : Nat) : Int)) + (1 : Int)) - (0 : Int)) from ?_) (all_nil)))
  all_goals try simp only [hF, pi2, pi5, pi6, pi7, pb1, pb2, pb4, pl4, pl6, pl8]
  all_goals
    have b2 : findN (ρ.z.rl 0) (ρ.i .i64 1) (ρ.z.rl 0).length ≤ (ρ.z.rl 0).length := first_le _ _
    have hcap := kn.cap 0 _ _ rfl
    simp only [find_in (l := ρ.z.rl 0) (s := ρ.i .i64 1) (by omega), addE_in] at *
    first
      | (have q := add2q (s := ρ.i .i64 1) (u := ρ.i .i64 2) (m := ρ.i .i64 3) (p := ρ.i .i64 4) (a := ρ.i .i64 5) (by assumption : ¬ queueL (ρ.z.rl 0) = true); omega)
      | (have q := add2m (l := ρ.z.rl 0) (by assumption : ¬ mayW _ _ _ _ _ = true); omega)
      | (have q := add220 (l := ρ.z.rl 0) (by assumption) (by assumption : mayW _ _ _ _ _ = true) (by omega); omega)
      | (have q := add0 (l := ρ.z.rl 0) (by assumption) (by assumption : mayW _ _ _ _ _ = true) (by omega)
         first
           | omega
           | (rw [q.2, List.length_append]; simp only [wL, List.length_cons, List.length_nil]; omega)
           | (rw [q.2]; exact (put2 (by rw [List.length_replicate]; omega) rfl (by simp only [wL, List.length_cons, List.length_nil]; omega)).symm))
theorem vcaddOk_1 : VD TTaddOk (st0 cAddOk) waddOk_1 := by
  intro ρ kn hp
  have hF : ρ.z.F = wt.Φ := kn.F
  simp only [h_nil, h_cons, d_le, d_eq, d_not, d_var, d_lit, d_cel, d_leq, d_fn, d_and, d_iff, IE.den, LE.den, AL.den, lenV, true_and, and_true, pcaddOk_2, pcaddOk_1, pcaddOk_0, hF, pi2, pi5, pi6, pi7, pb1, pb2, pb4, pl4, pl6, pl8] at hp
  obtain ⟨p1, p2, p3, p4, p5, p6, p7, p8⟩ := hp
  exfalso
  all_goals
    have b2 : findN (ρ.z.rl 0) (ρ.i .i64 1) (ρ.z.rl 0).length ≤ (ρ.z.rl 0).length := first_le _ _
    have hcap := kn.cap 0 _ _ rfl
    simp only [find_in (l := ρ.z.rl 0) (s := ρ.i .i64 1) (by omega), addE_in] at *
    first
      | (have q := add2q (s := ρ.i .i64 1) (u := ρ.i .i64 2) (m := ρ.i .i64 3) (p := ρ.i .i64 4) (a := ρ.i .i64 5) (by assumption : ¬ queueL (ρ.z.rl 0) = true); omega)
      | (have q := add2m (l := ρ.z.rl 0) (by assumption : ¬ mayW _ _ _ _ _ = true); omega)
      | (have q := add220 (l := ρ.z.rl 0) (by assumption) (by assumption : mayW _ _ _ _ _ = true) (by omega); omega)
      | (have q := add0 (l := ρ.z.rl 0) (by assumption) (by assumption : mayW _ _ _ _ _ = true) (by omega)
         first
           | omega
           | (rw [q.2, List.length_append]; simp only [wL, List.length_cons, List.length_nil]; omega)
           | (rw [q.2]; exact (put2 (by rw [List.length_replicate]; omega) rfl (by simp only [wL, List.length_cons, List.length_nil]; omega)).symm))
theorem vcaddOk_2 : VD TTaddOk (st0 cAddOk) waddOk_2 := by
  intro ρ kn hp
  have hF : ρ.z.F = wt.Φ := kn.F
  simp only [h_nil, h_cons, d_le, d_eq, d_not, d_var, d_lit, d_cel, d_leq, d_fn, d_and, d_iff, IE.den, LE.den, AL.den, lenV, true_and, and_true, pcaddOk_1, pcaddOk_0, hF, pi2, pi5, pi6, pi7, pb1, pb2, pb4, pl4, pl6, pl8] at hp
  obtain ⟨p1, p2, p3, p4, p5⟩ := hp
  exfalso
  all_goals
    have b2 : findN (ρ.z.rl 0) (ρ.i .i64 1) (ρ.z.rl 0).length ≤ (ρ.z.rl 0).length := first_le _ _
    have hcap := kn.cap 0 _ _ rfl
    simp only [find_in (l := ρ.z.rl 0) (s := ρ.i .i64 1) (by omega), addE_in] at *
    first
      | (have q := add2q (s := ρ.i .i64 1) (u := ρ.i .i64 2) (m := ρ.i .i64 3) (p := ρ.i .i64 4) (a := ρ.i .i64 5) (by assumption : ¬ queueL (ρ.z.rl 0) = true); omega)
      | (have q := add2m (l := ρ.z.rl 0) (by assumption : ¬ mayW _ _ _ _ _ = true); omega)
      | (have q := add220 (l := ρ.z.rl 0) (by assumption) (by assumption : mayW _ _ _ _ _ = true) (by omega); omega)
      | (have q := add0 (l := ρ.z.rl 0) (by assumption) (by assumption : mayW _ _ _ _ _ = true) (by omega)
         first
           | omega
           | (rw [q.2, List.length_append]; simp only [wL, List.length_cons, List.length_nil]; omega)
           | (rw [q.2]; exact (put2 (by rw [List.length_replicate]; omega) rfl (by simp only [wL, List.length_cons, List.length_nil]; omega)).symm))
theorem vcaddOk_3 : VD TTaddOk (st0 cAddOk) waddOk_3 := by
  intro ρ kn hp
  have hF : ρ.z.F = wt.Φ := kn.F
  simp only [h_nil, h_cons, d_le, d_eq, d_not, d_var, d_lit, d_cel, d_leq, d_fn, d_and, d_iff, IE.den, LE.den, AL.den, lenV, true_and, and_true, pcaddOk_0, hF, pi2, pi5, pi6, pi7, pb1, pb2, pb4, pl4, pl6, pl8] at hp
  obtain ⟨p1, p2, p3, p4⟩ := hp
  exfalso
  all_goals
    have b2 : findN (ρ.z.rl 0) (ρ.i .i64 1) (ρ.z.rl 0).length ≤ (ρ.z.rl 0).length := first_le _ _
    have hcap := kn.cap 0 _ _ rfl
    simp only [find_in (l := ρ.z.rl 0) (s := ρ.i .i64 1) (by omega), addE_in] at *
    first
      | (have q := add2q (s := ρ.i .i64 1) (u := ρ.i .i64 2) (m := ρ.i .i64 3) (p := ρ.i .i64 4) (a := ρ.i .i64 5) (by assumption : ¬ queueL (ρ.z.rl 0) = true); omega)
      | (have q := add2m (l := ρ.z.rl 0) (by assumption : ¬ mayW _ _ _ _ _ = true); omega)
      | (have q := add220 (l := ρ.z.rl 0) (by assumption) (by assumption : mayW _ _ _ _ _ = true) (by omega); omega)
      | (have q := add0 (l := ρ.z.rl 0) (by assumption) (by assumption : mayW _ _ _ _ _ = true) (by omega)
         first
           | omega
           | (rw [q.2, List.length_append]; simp only [wL, List.length_cons, List.length_nil]; omega)
           | (rw [q.2]; exact (put2 (by rw [List.length_replicate]; omega) rfl (by simp only [wL, List.length_cons, List.length_nil]; omega)).symm))
theorem told_addOk : Sx.Told wt.Φ cAddOk := told_vw (cs := [cQueueP, cQueueR, cMayP, cMayR, cRFin, cRFout, cFindIn, cFindOut, cFindNo]) (all_cons told_queueP (all_cons told_queueR (all_cons told_mayP (all_cons told_mayR (all_cons told_rfin (all_cons told_rfout (all_cons told_findIn (all_cons told_findOut (all_cons told_findNo (all_nil)))))))))) 9000 vwaddOk (by kernel_rfl) (by kernel_rfl) (by kernel_rfl) post_addOk (by kernel_rfl) (by kernel_rfl) (all_cons vcaddOk_0 (all_cons vcaddOk_1 (all_cons vcaddOk_2 (all_cons vcaddOk_3 (all_nil)))))
noncomputable section
abbrev TTaddNo : Tab := T wt.Φ cAddNo.roms [cQueueP, cQueueR, cMayP, cMayR, cRFin, cRFout, cFindIn, cFindOut, cFindNo]
def pcaddNo_0 : List BE := [(BE.lit true), (BE.le (IE.len (LE.rom 0)) (IE.lit 1000)), (BE.le (IE.lit 1) (IE.len (LE.rom 0))), (BE.not (BE.eq (IE.fn .i64 5 (AL.lst (LE.rom 0) (AL.int .i64 (IE.var .i64 1) (AL.int .i64 (IE.var .i64 2) (AL.int .i64 (IE.var .i64 3) (AL.int .i64 (IE.var .i64 4) (AL.int .i64 (IE.var .i64 5) AL.nil))))))) (IE.lit 0)))]
def pcaddNo_1 : List BE := ((BE.fn 4 (AL.lst (LE.rom 0) AL.nil)) :: pcaddNo_0)
def pcaddNo_2 : List BE := ((BE.fn 2 (AL.int .i64 (IE.var .i64 1) (AL.int .i64 (IE.var .i64 2) (AL.int .i64 (IE.var .i64 3) (AL.int .i64 (IE.var .i64 4) (AL.int .i64 (IE.var .i64 5) AL.nil)))))) :: pcaddNo_1)
def waddNo_0 : VW := (VW.done ((BE.le (IE.len (LE.rom 0)) (IE.fn .i64 2 (AL.lst (LE.rom 0) (AL.int .i64 (IE.var .i64 1) AL.nil)))) :: pcaddNo_2) (some [(G.b (BE.lit true) (BE.lit false))]))
def waddNo_1 : VW := (VW.done ((BE.le (IE.lit 0) (IE.fn .i64 2 (AL.lst (LE.rom 0) (AL.int .i64 (IE.var .i64 1) AL.nil)))) :: (BE.le (IE.fn .i64 2 (AL.lst (LE.rom 0) (AL.int .i64 (IE.var .i64 1) AL.nil))) (IE.len (LE.rom 0))) :: (BE.not (BE.le (IE.len (LE.rom 0)) (IE.fn .i64 2 (AL.lst (LE.rom 0) (AL.int .i64 (IE.var .i64 1) AL.nil))))) :: pcaddNo_2) (some [(G.i (IE.fn .i64 5 (AL.lst (LE.rom 0) (AL.int .i64 (IE.var .i64 1) (AL.int .i64 (IE.var .i64 2) (AL.int .i64 (IE.var .i64 3) (AL.int .i64 (IE.var .i64 4) (AL.int .i64 (IE.var .i64 5) AL.nil))))))) (IE.lit 220))]))
def waddNo_2 : VW := (VW.done ((BE.not (BE.fn 2 (AL.int .i64 (IE.var .i64 1) (AL.int .i64 (IE.var .i64 2) (AL.int .i64 (IE.var .i64 3) (AL.int .i64 (IE.var .i64 4) (AL.int .i64 (IE.var .i64 5) AL.nil))))))) :: pcaddNo_1) (some [(G.i (IE.fn .i64 5 (AL.lst (LE.rom 0) (AL.int .i64 (IE.var .i64 1) (AL.int .i64 (IE.var .i64 2) (AL.int .i64 (IE.var .i64 3) (AL.int .i64 (IE.var .i64 4) (AL.int .i64 (IE.var .i64 5) AL.nil))))))) (IE.lit 2))]))
def waddNo_3 : VW := (VW.done ((BE.not (BE.fn 4 (AL.lst (LE.rom 0) AL.nil))) :: pcaddNo_0) (some [(G.i (IE.fn .i64 5 (AL.lst (LE.rom 0) (AL.int .i64 (IE.var .i64 1) (AL.int .i64 (IE.var .i64 2) (AL.int .i64 (IE.var .i64 3) (AL.int .i64 (IE.var .i64 4) (AL.int .i64 (IE.var .i64 5) AL.nil))))))) (IE.lit 2))]))
def vwaddNo : List VW := [waddNo_0, waddNo_1, waddNo_2, waddNo_3]
end
theorem vcaddNo_0 : VD TTaddNo (st0 cAddNo) waddNo_0 := by
  intro ρ kn hp
  have hF : ρ.z.F = wt.Φ := kn.F
  simp only [h_nil, h_cons, d_le, d_eq, d_not, d_var, d_lit, d_cel, d_leq, d_fn, d_and, d_iff, IE.den, LE.den, AL.den, lenV, true_and, and_true, pcaddNo_2, pcaddNo_1, pcaddNo_0, hF, pi2, pi5, pi6, pi7, pb1, pb2, pb4, pl4, pl6, pl8] at hp
  obtain ⟨p1, p2, p3, p4, p5, p6⟩ := hp
  exfalso
  all_goals
    have b2 : findN (ρ.z.rl 0) (ρ.i .i64 1) (ρ.z.rl 0).length ≤ (ρ.z.rl 0).length := first_le _ _
    have hcap := kn.cap 0 _ _ rfl
    simp only [find_in (l := ρ.z.rl 0) (s := ρ.i .i64 1) (by omega), addE_in] at *
    first
      | (have q := add2q (s := ρ.i .i64 1) (u := ρ.i .i64 2) (m := ρ.i .i64 3) (p := ρ.i .i64 4) (a := ρ.i .i64 5) (by assumption : ¬ queueL (ρ.z.rl 0) = true); omega)
      | (have q := add2m (l := ρ.z.rl 0) (by assumption : ¬ mayW _ _ _ _ _ = true); omega)
      | (have q := add220 (l := ρ.z.rl 0) (by assumption) (by assumption : mayW _ _ _ _ _ = true) (by omega); omega)
      | (have q := add0 (l := ρ.z.rl 0) (by assumption) (by assumption : mayW _ _ _ _ _ = true) (by omega)
         first
           | omega
           | (rw [q.2, List.length_append]; simp only [wL, List.length_cons, List.length_nil]; omega)
           | (rw [q.2]; skip))
theorem vcaddNo_1 : VD TTaddNo (st0 cAddNo) waddNo_1 := by
  intro ρ kn hp
  have hF : ρ.z.F = wt.Φ := kn.F
  simp only [h_nil, h_cons, d_le, d_eq, d_not, d_var, d_lit, d_cel, d_leq, d_fn, d_and, d_iff, IE.den, LE.den, AL.den, lenV, true_and, and_true, pcaddNo_2, pcaddNo_1, pcaddNo_0, hF, pi2, pi5, pi6, pi7, pb1, pb2, pb4, pl4, pl6, pl8] at hp
  obtain ⟨p1, p2, p3, p4, p5, p6, p7, p8⟩ := hp
  refine all_cons (show (clampK .i64 (ρ.z.F.i 5 [.lst (ρ.z.rl 0), .int .i64 (ρ.i .i64 1), .int .i64 (ρ.i .i64 2), .int .i64 (ρ.i .i64 3), .int .i64 (ρ.i .i64 4), .int .i64 (ρ.i .i64 5)])) = (220 : Int) from ?_) (all_nil)
  all_goals try simp only [hF, pi2, pi5, pi6, pi7, pb1, pb2, pb4, pl4, pl6, pl8]
  all_goals
    have b2 : findN (ρ.z.rl 0) (ρ.i .i64 1) (ρ.z.rl 0).length ≤ (ρ.z.rl 0).length := first_le _ _
    have hcap := kn.cap 0 _ _ rfl
    simp only [find_in (l := ρ.z.rl 0) (s := ρ.i .i64 1) (by omega), addE_in] at *
    first
      | (have q := add2q (s := ρ.i .i64 1) (u := ρ.i .i64 2) (m := ρ.i .i64 3) (p := ρ.i .i64 4) (a := ρ.i .i64 5) (by assumption : ¬ queueL (ρ.z.rl 0) = true); omega)
      | (have q := add2m (l := ρ.z.rl 0) (by assumption : ¬ mayW _ _ _ _ _ = true); omega)
      | (have q := add220 (l := ρ.z.rl 0) (by assumption) (by assumption : mayW _ _ _ _ _ = true) (by omega); omega)
      | (have q := add0 (l := ρ.z.rl 0) (by assumption) (by assumption : mayW _ _ _ _ _ = true) (by omega)
         first
           | omega
           | (rw [q.2, List.length_append]; simp only [wL, List.length_cons, List.length_nil]; omega)
           | (rw [q.2]; skip))
theorem vcaddNo_2 : VD TTaddNo (st0 cAddNo) waddNo_2 := by
  intro ρ kn hp
  have hF : ρ.z.F = wt.Φ := kn.F
  simp only [h_nil, h_cons, d_le, d_eq, d_not, d_var, d_lit, d_cel, d_leq, d_fn, d_and, d_iff, IE.den, LE.den, AL.den, lenV, true_and, and_true, pcaddNo_1, pcaddNo_0, hF, pi2, pi5, pi6, pi7, pb1, pb2, pb4, pl4, pl6, pl8] at hp
  obtain ⟨p1, p2, p3, p4, p5⟩ := hp
  refine all_cons (show (clampK .i64 (ρ.z.F.i 5 [.lst (ρ.z.rl 0), .int .i64 (ρ.i .i64 1), .int .i64 (ρ.i .i64 2), .int .i64 (ρ.i .i64 3), .int .i64 (ρ.i .i64 4), .int .i64 (ρ.i .i64 5)])) = (2 : Int) from ?_) (all_nil)
  all_goals try simp only [hF, pi2, pi5, pi6, pi7, pb1, pb2, pb4, pl4, pl6, pl8]
  all_goals
    have b2 : findN (ρ.z.rl 0) (ρ.i .i64 1) (ρ.z.rl 0).length ≤ (ρ.z.rl 0).length := first_le _ _
    have hcap := kn.cap 0 _ _ rfl
    simp only [find_in (l := ρ.z.rl 0) (s := ρ.i .i64 1) (by omega), addE_in] at *
    first
      | (have q := add2q (s := ρ.i .i64 1) (u := ρ.i .i64 2) (m := ρ.i .i64 3) (p := ρ.i .i64 4) (a := ρ.i .i64 5) (by assumption : ¬ queueL (ρ.z.rl 0) = true); omega)
      | (have q := add2m (l := ρ.z.rl 0) (by assumption : ¬ mayW _ _ _ _ _ = true); omega)
      | (have q := add220 (l := ρ.z.rl 0) (by assumption) (by assumption : mayW _ _ _ _ _ = true) (by omega); omega)
      | (have q := add0 (l := ρ.z.rl 0) (by assumption) (by assumption : mayW _ _ _ _ _ = true) (by omega)
         first
           | omega
           | (rw [q.2, List.length_append]; simp only [wL, List.length_cons, List.length_nil]; omega)
           | (rw [q.2]; skip))
theorem vcaddNo_3 : VD TTaddNo (st0 cAddNo) waddNo_3 := by
  intro ρ kn hp
  have hF : ρ.z.F = wt.Φ := kn.F
  simp only [h_nil, h_cons, d_le, d_eq, d_not, d_var, d_lit, d_cel, d_leq, d_fn, d_and, d_iff, IE.den, LE.den, AL.den, lenV, true_and, and_true, pcaddNo_0, hF, pi2, pi5, pi6, pi7, pb1, pb2, pb4, pl4, pl6, pl8] at hp
  obtain ⟨p1, p2, p3, p4⟩ := hp
  refine all_cons (show (clampK .i64 (ρ.z.F.i 5 [.lst (ρ.z.rl 0), .int .i64 (ρ.i .i64 1), .int .i64 (ρ.i .i64 2), .int .i64 (ρ.i .i64 3), .int .i64 (ρ.i .i64 4), .int .i64 (ρ.i .i64 5)])) = (2 : Int) from ?_) (all_nil)
  all_goals try simp only [hF, pi2, pi5, pi6, pi7, pb1, pb2, pb4, pl4, pl6, pl8]
  all_goals
    have b2 : findN (ρ.z.rl 0) (ρ.i .i64 1) (ρ.z.rl 0).length ≤ (ρ.z.rl 0).length := first_le _ _
    have hcap := kn.cap 0 _ _ rfl
    simp only [find_in (l := ρ.z.rl 0) (s := ρ.i .i64 1) (by omega), addE_in] at *
    first
      | (have q := add2q (s := ρ.i .i64 1) (u := ρ.i .i64 2) (m := ρ.i .i64 3) (p := ρ.i .i64 4) (a := ρ.i .i64 5) (by assumption : ¬ queueL (ρ.z.rl 0) = true); omega)
      | (have q := add2m (l := ρ.z.rl 0) (by assumption : ¬ mayW _ _ _ _ _ = true); omega)
      | (have q := add220 (l := ρ.z.rl 0) (by assumption) (by assumption : mayW _ _ _ _ _ = true) (by omega); omega)
      | (have q := add0 (l := ρ.z.rl 0) (by assumption) (by assumption : mayW _ _ _ _ _ = true) (by omega)
         first
           | omega
           | (rw [q.2, List.length_append]; simp only [wL, List.length_cons, List.length_nil]; omega)
           | (rw [q.2]; skip))
theorem told_addNo : Sx.Told wt.Φ cAddNo := told_vw (cs := [cQueueP, cQueueR, cMayP, cMayR, cRFin, cRFout, cFindIn, cFindOut, cFindNo]) (all_cons told_queueP (all_cons told_queueR (all_cons told_mayP (all_cons told_mayR (all_cons told_rfin (all_cons told_rfout (all_cons told_findIn (all_cons told_findOut (all_cons told_findNo (all_nil)))))))))) 9000 vwaddNo (by kernel_rfl) (by kernel_rfl) (by kernel_rfl) (post_nil rfl) (by kernel_rfl) (by kernel_rfl) (all_cons vcaddNo_0 (all_cons vcaddNo_1 (all_cons vcaddNo_2 (all_cons vcaddNo_3 (all_nil)))))
noncomputable section
abbrev TTraddOk : Tab := T wt.Φ cRAddOk.roms [cQueueP, cQueueR, cMayP, cMayR, cRFin, cRFout, cFindIn, cFindOut, cFindNo]
def pcraddOk_0 : List BE := [(BE.lit true), (BE.le (IE.len (LE.rom 0)) (IE.lit 1000)), (BE.le (IE.lit 1) (IE.len (LE.rom 0))), (BE.eq (IE.fn .i64 5 (AL.lst (LE.rom 0) (AL.int .i64 (IE.var .i64 1) (AL.int .i64 (IE.var .i64 2) (AL.int .i64 (IE.var .i64 3) (AL.int .i64 (IE.var .i64 4) (AL.int .i64 (IE.var .i64 5) AL.nil))))))) (IE.lit 0))]
def pcraddOk_1 : List BE := ((BE.fn 4 (AL.lst (LE.rom 0) AL.nil)) :: pcraddOk_0)
def pcraddOk_2 : List BE := ((BE.fn 2 (AL.int .i64 (IE.var .i64 1) (AL.int .i64 (IE.var .i64 2) (AL.int .i64 (IE.var .i64 3) (AL.int .i64 (IE.var .i64 4) (AL.int .i64 (IE.var .i64 5) AL.nil)))))) :: pcraddOk_1)
def wraddOk_0 : VW := (VW.done ((BE.le (IE.len (LE.rom 0)) (IE.fn .i64 2 (AL.lst (LE.rom 0) (AL.int .i64 (IE.var .i64 1) AL.nil)))) :: pcraddOk_2) (some [(G.i (IE.len (LE.fn 6 (AL.lst (LE.rom 0) (AL.int .i64 (IE.var .i64 1) (AL.int .i64 (IE.var .i64 2) (AL.int .i64 (IE.var .i64 3) (AL.int .i64 (IE.var .i64 4) (AL.int .i64 (IE.var .i64 5) AL.nil)))))))) (IE.add (IE.len (LE.rom 0)) (IE.lit 1))), (G.l (LE.fn 6 (AL.lst (LE.rom 0) (AL.int .i64 (IE.var .i64 1) (AL.int .i64 (IE.var .i64 2) (AL.int .i64 (IE.var .i64 3) (AL.int .i64 (IE.var .i64 4) (AL.int .i64 (IE.var .i64 5) AL.nil))))))) (LE.cat (LE.rom 0) (LE.one (AL.int .i64 (IE.var .i64 1) (AL.int .i64 (IE.var .i64 2) (AL.int .i64 (IE.var .i64 3) (AL.int .i64 (IE.var .i64 4) (AL.int .i64 (IE.var .i64 5) AL.nil)))))))), (G.i (IE.len (LE.fn 6 (AL.lst (LE.rom 0) (AL.int .i64 (IE.var .i64 1) (AL.int .i64 (IE.var .i64 2) (AL.int .i64 (IE.var .i64 3) (AL.int .i64 (IE.var .i64 4) (AL.int .i64 (IE.var .i64 5) AL.nil)))))))) (IE.add (IE.len (LE.rom 0)) (IE.lit 1)))]))
def wraddOk_1 : VW := (VW.done ((BE.le (IE.lit 0) (IE.fn .i64 2 (AL.lst (LE.rom 0) (AL.int .i64 (IE.var .i64 1) AL.nil)))) :: (BE.le (IE.fn .i64 2 (AL.lst (LE.rom 0) (AL.int .i64 (IE.var .i64 1) AL.nil))) (IE.len (LE.rom 0))) :: (BE.not (BE.le (IE.len (LE.rom 0)) (IE.fn .i64 2 (AL.lst (LE.rom 0) (AL.int .i64 (IE.var .i64 1) AL.nil))))) :: pcraddOk_2) (some [(G.b (BE.lit true) (BE.lit false))]))
def wraddOk_2 : VW := (VW.done ((BE.not (BE.fn 2 (AL.int .i64 (IE.var .i64 1) (AL.int .i64 (IE.var .i64 2) (AL.int .i64 (IE.var .i64 3) (AL.int .i64 (IE.var .i64 4) (AL.int .i64 (IE.var .i64 5) AL.nil))))))) :: pcraddOk_1) (some [(G.b (BE.lit true) (BE.lit false))]))
def wraddOk_3 : VW := (VW.done ((BE.not (BE.fn 4 (AL.lst (LE.rom 0) AL.nil))) :: pcraddOk_0) (some [(G.b (BE.lit true) (BE.lit false))]))
def vwraddOk : List VW := [wraddOk_0, wraddOk_1, wraddOk_2, wraddOk_3]
end
theorem vcraddOk_0 : VD TTraddOk (st0 cRAddOk) wraddOk_0 := by
  intro ρ kn hp
  have hF : ρ.z.F = wt.Φ := kn.F
  simp only [h_nil, h_cons, d_le, d_eq, d_not, d_var, d_lit, d_cel, d_leq, d_fn, d_and, d_iff, IE.den, LE.den, AL.den, lenV, true_and, and_true, pcraddOk_2, pcraddOk_1, pcraddOk_0, hF, pi2, pi5, pi6, pi7, pb1, pb2, pb4, pl4, pl6, pl8] at hp
  obtain ⟨p1, p2, p3, p4, p5, p6⟩ := hp
  refine all_cons (show (((ρ.z.F.l 6 [.lst (ρ.z.rl 0), .int .i64 (ρ.i .i64 1), .int .i64 (ρ.i .i64 2), .int .i64 (ρ.i .i64 3), .int .i64 (ρ.i .i64 4), .int .i64 (ρ.i .i64 5)]).length : Nat) : Int) = ((((ρ.z.rl 0).length : Nat) : Int) + (1 : Int)) from ?_) (all_cons (show (ρ.z.F.l 6 [.lst (ρ.z.rl 0), .int .i64 (ρ.i .i64 1), .int .i64 (ρ.i .i64 2), .int .i64 (ρ.i .i64 3), .int .i64 (ρ.i .i64 4), .int .i64 (ρ.i .i64 5)]) = ((ρ.z.rl 0) ++ ([[Go.Value.int .i64 (ρ.i .i64 1), Go.Value.int .i64 (ρ.i .i64 2), Go.Value.int .i64 (ρ.i .i64 3), Go.Value.int .i64 (ρ.i .i64 4), Go.Value.int .i64 (ρ.i .i64 5)]] : LV)) from ?_) (all_cons (show (((ρ.z.F.l 6 [.lst (ρ.z.rl 0), .int .i64 (ρ.i .i64 1), .int .i64 (ρ.i .i64 2), .int .i64 (ρ.i .i64 3), .int .i64 (ρ.i .i64 4), .int .i64 (ρ.i .i64 5)]).length : Nat) : Int) = ((((ρ.z.rl 0).length : Nat) : Int) + (1 : Int)) from ?_) (all_nil)))
  all_goals try simp only [hF, pi2, pi5, pi6, pi7, pb1, pb2, pb4, pl4, pl6, pl8]
  all_goals
    have b2 : findN (ρ.z.rl 0) (ρ.i .i64 1) (ρ.z.rl 0).length ≤ (ρ.z.rl 0).length := first_le _ _
    have hcap := kn.cap 0 _ _ rfl
    simp only [find_in (l := ρ.z.rl 0) (s := ρ.i .i64 1) (by omega), addE_in] at *
    first
      | (have q := add2q (s := ρ.i .i64 1) (u := ρ.i .i64 2) (m := ρ.i .i64 3) (p := ρ.i .i64 4) (a := ρ.i .i64 5) (by assumption : ¬ queueL (ρ.z.rl 0) = true); omega)
      | (have q := add2m (l := ρ.z.rl 0) (by assumption : ¬ mayW _ _ _ _ _ = true); omega)
      | (have q := add220 (l := ρ.z.rl 0) (by assumption) (by assumption : mayW _ _ _ _ _ = true) (by omega); omega)
      | (have q := add0 (l := ρ.z.rl 0) (by assumption) (by assumption : mayW _ _ _ _ _ = true) (by omega)
         first
           | omega
           | (rw [q.2, List.length_append]; simp only [wL, List.length_cons, List.length_nil]; omega)
           | (rw [q.2]; rfl))
theorem vcraddOk_1 : VD TTraddOk (st0 cRAddOk) wraddOk_1 := by
  intro ρ kn hp
  have hF : ρ.z.F = wt.Φ := kn.F
  simp only [h_nil, h_cons, d_le, d_eq, d_not, d_var, d_lit, d_cel, d_leq, d_fn, d_and, d_iff, IE.den, LE.den, AL.den, lenV, true_and, and_true, pcraddOk_2, pcraddOk_1, pcraddOk_0, hF, pi2, pi5, pi6, pi7, pb1, pb2, pb4, pl4, pl6, pl8] at hp
  obtain ⟨p1, p2, p3, p4, p5, p6, p7, p8⟩ := hp
  exfalso
  all_goals
    have b2 : findN (ρ.z.rl 0) (ρ.i .i64 1) (ρ.z.rl 0).length ≤ (ρ.z.rl 0).length := first_le _ _
    have hcap := kn.cap 0 _ _ rfl
    simp only [find_in (l := ρ.z.rl 0) (s := ρ.i .i64 1) (by omega), addE_in] at *
    first
      | (have q := add2q (s := ρ.i .i64 1) (u := ρ.i .i64 2) (m := ρ.i .i64 3) (p := ρ.i .i64 4) (a := ρ.i .i64 5) (by assumption : ¬ queueL (ρ.z.rl 0) = true); omega)
      | (have q := add2m (l := ρ.z.rl 0) (by assumption : ¬ mayW _ _ _ _ _ = true); omega)
      | (have q := add220 (l := ρ.z.rl 0) (by assumption) (by assumption : mayW _ _ _ _ _ = true) (by omega); omega)
      | (have q := add0 (l := ρ.z.rl 0) (by assumption) (by assumption : mayW _ _ _ _ _ = true) (by omega)
         first
           | omega
           | (rw [q.2, List.length_append]; simp only [wL, List.length_cons, List.length_nil]; omega)
           | (rw [q.2]; rfl))
theorem vcraddOk_2 : VD TTraddOk (st0 cRAddOk) wraddOk_2 := by
  intro ρ kn hp
  have hF : ρ.z.F = wt.Φ := kn.F
  simp only [h_nil, h_cons, d_le, d_eq, d_not, d_var, d_lit, d_cel, d_leq, d_fn, d_and, d_iff, IE.den, LE.den, AL.den, lenV, true_and, and_true, pcraddOk_1, pcraddOk_0, hF, pi2, pi5, pi6, pi7, pb1, pb2, pb4, pl4, pl6, pl8] at hp
  obtain ⟨p1, p2, p3, p4, p5⟩ := hp
  exfalso
  all_goals
    have b2 : findN (ρ.z.rl 0) (ρ.i .i64 1) (ρ.z.rl 0).length ≤ (ρ.z.rl 0).length := first_le _ _
    have hcap := kn.cap 0 _ _ rfl
    simp only [find_in (l := ρ.z.rl 0) (s := ρ.i .i64 1) (by omega), addE_in] at *
    first
      | (have q := add2q (s := ρ.i .i64 1) (u := ρ.i .i64 2) (m := ρ.i .i64 3) (p := ρ.i .i64 4) (a := ρ.i .i64 5) (by assumption : ¬ queueL (ρ.z.rl 0) = true); omega)
      | (have q := add2m (l := ρ.z.rl 0) (by assumption : ¬ mayW _ _ _ _ _ = true); omega)
      | (have q := add220 (l := ρ.z.rl 0) (by assumption) (by assumption : mayW _ _ _ _ _ = true) (by omega); omega)
      | (have q := add0 (l := ρ.z.rl 0) (by assumption) (by assumption : mayW _ _ _ _ _ = true) (by omega)
         first
           | omega
           | (rw [q.2, List.length_append]; simp only [wL, List.length_cons, List.length_nil]; omega)
           | (rw [q.2]; rfl))
theorem vcraddOk_3 : VD TTraddOk (st0 cRAddOk) wraddOk_3 := by
  intro ρ kn hp
  have hF : ρ.z.F = wt.Φ := kn.F
  simp only [h_nil, h_cons, d_le, d_eq, d_not, d_var, d_lit, d_cel, d_leq, d_fn, d_and, d_iff, IE.den, LE.den, AL.den, lenV, true_and, and_true, pcraddOk_0, hF, pi2, pi5, pi6, pi7, pb1, pb2, pb4, pl4, pl6, pl8] at hp
  obtain ⟨p1, p2, p3, p4⟩ := hp
  exfalso
  all_goals
    have b2 : findN (ρ.z.rl 0) (ρ.i .i64 1) (ρ.z.rl 0).length ≤ (ρ.z.rl 0).length := first_le _ _
    have hcap := kn.cap 0 _ _ rfl
    simp only [find_in (l := ρ.z.rl 0) (s := ρ.i .i64 1) (by omega), addE_in] at *
    first
      | (have q := add2q (s := ρ.i .i64 1) (u := ρ.i .i64 2) (m := ρ.i .i64 3) (p := ρ.i .i64 4) (a := ρ.i .i64 5) (by assumption : ¬ queueL (ρ.z.rl 0) = true); omega)
      | (have q := add2m (l := ρ.z.rl 0) (by assumption : ¬ mayW _ _ _ _ _ = true); omega)
      | (have q := add220 (l := ρ.z.rl 0) (by assumption) (by assumption : mayW _ _ _ _ _ = true) (by omega); omega)
      | (have q := add0 (l := ρ.z.rl 0) (by assumption) (by assumption : mayW _ _ _ _ _ = true) (by omega)
         first
           | omega
           | (rw [q.2, List.length_append]; simp only [wL, List.length_cons, List.length_nil]; omega)
           | (rw [q.2]; rfl))
theorem told_raddOk : Sx.Told wt.Φ cRAddOk := told_vw (cs := [cQueueP, cQueueR, cMayP, cMayR, cRFin, cRFout, cFindIn, cFindOut, cFindNo]) (all_cons told_queueP (all_cons told_queueR (all_cons told_mayP (all_cons told_mayR (all_cons told_rfin (all_cons told_rfout (all_cons told_findIn (all_cons told_findOut (all_cons told_findNo (all_nil)))))))))) 9000 vwraddOk (by kernel_rfl) (by kernel_rfl) (by kernel_rfl) post_raddOk (by kernel_rfl) (by kernel_rfl) (all_cons vcraddOk_0 (all_cons vcraddOk_1 (all_cons vcraddOk_2 (all_cons vcraddOk_3 (all_nil)))))
noncomputable section
abbrev TTraddNo : Tab := T wt.Φ cRAddNo.roms [cQueueP, cQueueR, cMayP, cMayR, cRFin, cRFout, cFindIn, cFindOut, cFindNo]
def pcraddNo_0 : List BE := [(BE.lit true), (BE.le (IE.len (LE.rom 0)) (IE.lit 1000)), (BE.le (IE.lit 1) (IE.len (LE.rom 0))), (BE.not (BE.eq (IE.fn .i64 5 (AL.lst (LE.rom 0) (AL.int .i64 (IE.var .i64 1) (AL.int .i64 (IE.var .i64 2) (AL.int .i64 (IE.var .i64 3) (AL.int .i64 (IE.var .i64 4) (AL.int .i64 (IE.var .i64 5) AL.nil))))))) (IE.lit 0)))]
def pcraddNo_1 : List BE := ((BE.fn 4 (AL.lst (LE.rom 0) AL.nil)) :: pcraddNo_0)
def pcraddNo_2 : List BE := ((BE.fn 2 (AL.int .i64 (IE.var .i64 1) (AL.int .i64 (IE.var .i64 2) (AL.int .i64 (IE.var .i64 3) (AL.int .i64 (IE.var .i64 4) (AL.int .i64 (IE.var .i64 5) AL.nil)))))) :: pcraddNo_1)
def wraddNo_0 : VW := (VW.done ((BE.le (IE.len (LE.rom 0)) (IE.fn .i64 2 (AL.lst (LE.rom 0) (AL.int .i64 (IE.var .i64 1) AL.nil)))) :: pcraddNo_2) (some [(G.b (BE.lit true) (BE.lit false))]))
def wraddNo_1 : VW := (VW.done ((BE.le (IE.lit 0) (IE.fn .i64 2 (AL.lst (LE.rom 0) (AL.int .i64 (IE.var .i64 1) AL.nil)))) :: (BE.le (IE.fn .i64 2 (AL.lst (LE.rom 0) (AL.int .i64 (IE.var .i64 1) AL.nil))) (IE.len (LE.rom 0))) :: (BE.not (BE.le (IE.len (LE.rom 0)) (IE.fn .i64 2 (AL.lst (LE.rom 0) (AL.int .i64 (IE.var .i64 1) AL.nil))))) :: pcraddNo_2) (some [(G.i (IE.fn .i64 5 (AL.lst (LE.rom 0) (AL.int .i64 (IE.var .i64 1) (AL.int .i64 (IE.var .i64 2) (AL.int .i64 (IE.var .i64 3) (AL.int .i64 (IE.var .i64 4) (AL.int .i64 (IE.var .i64 5) AL.nil))))))) (IE.lit 220))]))
def wraddNo_2 : VW := (VW.done ((BE.not (BE.fn 2 (AL.int .i64 (IE.var .i64 1) (AL.int .i64 (IE.var .i64 2) (AL.int .i64 (IE.var .i64 3) (AL.int .i64 (IE.var .i64 4) (AL.int .i64 (IE.var .i64 5) AL.nil))))))) :: pcraddNo_1) (some [(G.i (IE.fn .i64 5 (AL.lst (LE.rom 0) (AL.int .i64 (IE.var .i64 1) (AL.int .i64 (IE.var .i64 2) (AL.int .i64 (IE.var .i64 3) (AL.int .i64 (IE.var .i64 4) (AL.int .i64 (IE.var .i64 5) AL.nil))))))) (IE.lit 2))]))
def wraddNo_3 : VW := (VW.done ((BE.not (BE.fn 4 (AL.lst (LE.rom 0) AL.nil))) :: pcraddNo_0) (some [(G.i (IE.fn .i64 5 (AL.lst (LE.rom 0) (AL.int .i64 (IE.var .i64 1) (AL.int .i64 (IE.var .i64 2) (AL.int .i64 (IE.var .i64 3) (AL.int .i64 (IE.var .i64 4) (AL.int .i64 (IE.var .i64 5) AL.nil))))))) (IE.lit 2))]))
def vwraddNo : List VW := [wraddNo_0, wraddNo_1, wraddNo_2, wraddNo_3]
end
theorem vcraddNo_0 : VD TTraddNo (st0 cRAddNo) wraddNo_0 := by
  intro ρ kn hp
  have hF : ρ.z.F = wt.Φ := kn.F
  simp only [h_nil, h_cons, d_le, d_eq, d_not, d_var, d_lit, d_cel, d_leq, d_fn, d_and, d_iff, IE.den, LE.den, AL.den, lenV, true_and, and_true, pcraddNo_2, pcraddNo_1, pcraddNo_0, hF, pi2, pi5, pi6, pi7, pb1, pb2, pb4, pl4, pl6, pl8] at hp
  obtain ⟨p1, p2, p3, p4, p5, p6⟩ := hp
  exfalso
  all_goals
    have b2 : findN (ρ.z.rl 0) (ρ.i .i64 1) (ρ.z.rl 0).length ≤ (ρ.z.rl 0).length := first_le _ _
    have hcap := kn.cap 0 _ _ rfl
    simp only [find_in (l := ρ.z.rl 0) (s := ρ.i .i64 1) (by omega), addE_in] at *
    first
      | (have q := add2q (s := ρ.i .i64 1) (u := ρ.i .i64 2) (m := ρ.i .i64 3) (p := ρ.i .i64 4) (a := ρ.i .i64 5) (by assumption : ¬ queueL (ρ.z.rl 0) = true); omega)
      | (have q := add2m (l := ρ.z.rl 0) (by assumption : ¬ mayW _ _ _ _ _ = true); omega)
      | (have q := add220 (l := ρ.z.rl 0) (by assumption) (by assumption : mayW _ _ _ _ _ = true) (by omega); omega)
      | (have q := add0 (l := ρ.z.rl 0) (by assumption) (by assumption : mayW _ _ _ _ _ = true) (by omega)
         first
           | omega
           | (rw [q.2, List.length_append]; simp only [wL, List.length_cons, List.length_nil]; omega)
           | (rw [q.2]; skip))
theorem vcraddNo_1 : VD TTraddNo (st0 cRAddNo) wraddNo_1 := by
  intro ρ kn hp
  have hF : ρ.z.F = wt.Φ := kn.F
  simp only [h_nil, h_cons, d_le, d_eq, d_not, d_var, d_lit, d_cel, d_leq, d_fn, d_and, d_iff, IE.den, LE.den, AL.den, lenV, true_and, and_true, pcraddNo_2, pcraddNo_1, pcraddNo_0, hF, pi2, pi5, pi6, pi7, pb1, pb2, pb4, pl4, pl6, pl8] at hp
  obtain ⟨p1, p2, p3, p4, p5, p6, p7, p8⟩ := hp
  refine all_cons (show (clampK .i64 (ρ.z.F.i 5 [.lst (ρ.z.rl 0), .int .i64 (ρ.i .i64 1), .int .i64 (ρ.i .i64 2), .int .i64 (ρ.i .i64 3), .int .i64 (ρ.i .i64 4), .int .i64 (ρ.i .i64 5)])) = (220 : Int) from ?_) (all_nil)
  all_goals try simp only [hF, pi2, pi5, pi6, pi7, pb1, pb2, pb4, pl4, pl6, pl8]
  all_goals
    have b2 : findN (ρ.z.rl 0) (ρ.i .i64 1) (ρ.z.rl 0).length ≤ (ρ.z.rl 0).length := first_le _ _
    have hcap := kn.cap 0 _ _ rfl
    simp only [find_in (l := ρ.z.rl 0) (s := ρ.i .i64 1) (by omega), addE_in] at *
    first
      | (have q := add2q (s := ρ.i .i64 1) (u := ρ.i .i64 2) (m := ρ.i .i64 3) (p := ρ.i .i64 4) (a := ρ.i .i64 5) (by assumption : ¬ queueL (ρ.z.rl 0) = true); omega)
      | (have q := add2m (l := ρ.z.rl 0) (by assumption : ¬ mayW _ _ _ _ _ = true); omega)
      | (have q := add220 (l := ρ.z.rl 0) (by assumption) (by assumption : mayW _ _ _ _ _ = true) (by omega); omega)
      | (have q := add0 (l := ρ.z.rl 0) (by assumption) (by assumption : mayW _ _ _ _ _ = true) (by omega)
         first
           | omega
           | (rw [q.2, List.length_append]; simp only [wL, List.length_cons, List.length_nil]; omega)
           | (rw [q.2]; skip))
theorem vcraddNo_2 : VD TTraddNo (st0 cRAddNo) wraddNo_2 := by
  intro ρ kn hp
  have hF : ρ.z.F = wt.Φ := kn.F
  simp only [h_nil, h_cons, d_le, d_eq, d_not, d_var, d_lit, d_cel, d_leq, d_fn, d_and, d_iff, IE.den, LE.den, AL.den, lenV, true_and, and_true, pcraddNo_1, pcraddNo_0, hF, pi2, pi5, pi6, pi7, pb1, pb2, pb4, pl4, pl6, pl8] at hp
  obtain ⟨p1, p2, p3, p4, p5⟩ := hp
  refine all_cons (show (clampK .i64 (ρ.z.F.i 5 [.lst (ρ.z.rl 0), .int .i64 (ρ.i .i64 1), .int .i64 (ρ.i .i64 2), .int .i64 (ρ.i .i64 3), .int .i64 (ρ.i .i64 4), .int .i64 (ρ.i .i64 5)])) = (2 : Int) from ?_) (all_nil)
  all_goals try simp only [hF, pi2, pi5, pi6, pi7, pb1, pb2, pb4, pl4, pl6, pl8]
  all_goals
    have b2 : findN (ρ.z.rl 0) (ρ.i .i64 1) (ρ.z.rl 0).length ≤ (ρ.z.rl 0).length := first_le _ _
    have hcap := kn.cap 0 _ _ rfl
    simp only [find_in (l := ρ.z.rl 0) (s := ρ.i .i64 1) (by omega), addE_in] at *
    first
      | (have q := add2q (s := ρ.i .i64 1) (u := ρ.i .i64 2) (m := ρ.i .i64 3) (p := ρ.i .i64 4) (a := ρ.i .i64 5) (by assumption : ¬ queueL (ρ.z.rl 0) = true); omega)
      | (have q := add2m (l := ρ.z.rl 0) (by assumption : ¬ mayW _ _ _ _ _ = true); omega)
      | (have q := add220 (l := ρ.z.rl 0) (by assumption) (by assumption : mayW _ _ _ _ _ = true) (by omega); omega)
      | (have q := add0 (l := ρ.z.rl 0) (by assumption) (by assumption : mayW _ _ _ _ _ = true) (by omega)
         first
           | omega
           | (rw [q.2, List.length_append]; simp only [wL, List.length_cons, List.length_nil]; omega)
           | (rw [q.2]; skip))
theorem vcraddNo_3 : VD TTraddNo (st0 cRAddNo) wraddNo_3 := by
  intro ρ kn hp
  have hF : ρ.z.F = wt.Φ := kn.F
  simp only [h_nil, h_cons, d_le, d_eq, d_not, d_var, d_lit, d_cel, d_leq, d_fn, d_and, d_iff, IE.den, LE.den, AL.den, lenV, true_and, and_true, pcraddNo_0, hF, pi2, pi5, pi6, pi7, pb1, pb2, pb4, pl4, pl6, pl8] at hp
  obtain ⟨p1, p2, p3, p4⟩ := hp
  refine all_cons (show (clampK .i64 (ρ.z.F.i 5 [.lst (ρ.z.rl 0), .int .i64 (ρ.i .i64 1), .int .i64 (ρ.i .i64 2), .int .i64 (ρ.i .i64 3), .int .i64 (ρ.i .i64 4), .int .i64 (ρ.i .i64 5)])) = (2 : Int) from ?_) (all_nil)
  all_goals try simp only [hF, pi2, pi5, pi6, pi7, pb1, pb2, pb4, pl4, pl6, pl8]
  all_goals
    have b2 : findN (ρ.z.rl 0) (ρ.i .i64 1) (ρ.z.rl 0).length ≤ (ρ.z.rl 0).length := first_le _ _
    have hcap := kn.cap 0 _ _ rfl
    simp only [find_in (l := ρ.z.rl 0) (s := ρ.i .i64 1) (by omega), addE_in] at *
    first
      | (have q := add2q (s := ρ.i .i64 1) (u := ρ.i .i64 2) (m := ρ.i .i64 3) (p := ρ.i .i64 4) (a := ρ.i .i64 5) (by assumption : ¬ queueL (ρ.z.rl 0) = true); omega)
      | (have q := add2m (l := ρ.z.rl 0) (by assumption : ¬ mayW _ _ _ _ _ = true); omega)
      | (have q := add220 (l := ρ.z.rl 0) (by assumption) (by assumption : mayW _ _ _ _ _ = true) (by omega); omega)
      | (have q := add0 (l := ρ.z.rl 0) (by assumption) (by assumption : mayW _ _ _ _ _ = true) (by omega)
         first
           | omega
           | (rw [q.2, List.length_append]; simp only [wL, List.length_cons, List.length_nil]; omega)
           | (rw [q.2]; skip))
theorem told_raddNo : Sx.Told wt.Φ cRAddNo := told_vw (cs := [cQueueP, cQueueR, cMayP, cMayR, cRFin, cRFout, cFindIn, cFindOut, cFindNo]) (all_cons told_queueP (all_cons told_queueR (all_cons told_mayP (all_cons told_mayR (all_cons told_rfin (all_cons told_rfout (all_cons told_findIn (all_cons told_findOut (all_cons told_findNo (all_nil)))))))))) 9000 vwraddNo (by kernel_rfl) (by kernel_rfl) (by kernel_rfl) (post_nil rfl) (by kernel_rfl) (by kernel_rfl) (all_cons vcraddNo_0 (all_cons vcraddNo_1 (all_cons vcraddNo_2 (all_cons vcraddNo_3 (all_nil)))))
noncomputable section
abbrev TTdropOk : Tab := T wt.Φ cDropOk.roms [cQueueP, cQueueR, cMayP, cMayR, cRFin, cRFout, cFindIn, cFindOut, cFindNo]
def pcdropOk_0 : List BE := [(BE.lit true), (BE.le (IE.len (LE.rom 0)) (IE.lit 1000)), (BE.le (IE.lit 2) (IE.len (LE.rom 0))), (BE.eq (IE.fn .i64 6 (AL.lst (LE.rom 0) (AL.int .i64 (IE.var .i64 1) AL.nil))) (IE.lit 0))]
def pcdropOk_1 : List BE := ((BE.fn 4 (AL.lst (LE.rom 0) AL.nil)) :: pcdropOk_0)
def pcdropOk_2 : List BE := ((BE.le (IE.lit 0) (IE.fn .i64 2 (AL.lst (LE.rom 0) (AL.int .i64 (IE.var .i64 1) AL.nil)))) :: (BE.le (IE.fn .i64 2 (AL.lst (LE.rom 0) (AL.int .i64 (IE.var .i64 1) AL.nil))) (IE.len (LE.rom 0))) :: (BE.not (BE.le (IE.len (LE.rom 0)) (IE.fn .i64 2 (AL.lst (LE.rom 0) (AL.int .i64 (IE.var .i64 1) AL.nil))))) :: pcdropOk_1)
def wdropOk_0 : VW := (VW.done ((BE.le (IE.len (LE.rom 0)) (IE.fn .i64 2 (AL.lst (LE.rom 0) (AL.int .i64 (IE.var .i64 1) AL.nil)))) :: pcdropOk_1) (some [(G.b (BE.lit true) (BE.lit false))]))
def wdropOk_1 : VW := (VW.done ((BE.eq (IE.rcap 0) (IE.add (IE.fn .i64 2 (AL.lst (LE.rom 0) (AL.int .i64 (IE.var .i64 1) AL.nil))) (IE.lit 1))) :: pcdropOk_2) (some [(G.i (IE.len (LE.fn 8 (AL.lst (LE.rom 0) (AL.int .i64 (IE.var .i64 1) AL.nil)))) (IE.add (IE.fn .i64 2 (AL.lst (LE.rom 0) (AL.int .i64 (IE.var .i64 1) AL.nil))) (IE.sub (IE.len (LE.rom 0)) (IE.add (IE.fn .i64 2 (AL.lst (LE.rom 0) (AL.int .i64 (IE.var .i64 1) AL.nil))) (IE.lit 1))))), (G.l (LE.fn 8 (AL.lst (LE.rom 0) (AL.int .i64 (IE.var .i64 1) AL.nil))) (LE.cat (LE.cat (LE.take (LE.cat (LE.cat (LE.take (LE.rep (AL.int .i64 (IE.lit 0) (AL.int .i64 (IE.lit 0) (AL.int .i64 (IE.lit 0) (AL.int .i64 (IE.lit 0) (AL.int .i64 (IE.lit 0) AL.nil))))) (IE.sub (IE.add (IE.add (IE.lit 0) (IE.fn .i64 2 (AL.lst (LE.rom 0) (AL.int .i64 (IE.var .i64 1) AL.nil)))) (IE.sub (IE.len (LE.rom 0)) (IE.add (IE.fn .i64 2 (AL.lst (LE.rom 0) (AL.int .i64 (IE.var .i64 1) AL.nil))) (IE.lit 1)))) (IE.lit 0))) (IE.lit 0)) (LE.take (LE.rom 0) (IE.fn .i64 2 (AL.lst (LE.rom 0) (AL.int .i64 (IE.var .i64 1) AL.nil))))) (LE.drop (LE.rep (AL.int .i64 (IE.lit 0) (AL.int .i64 (IE.lit 0) (AL.int .i64 (IE.lit 0) (AL.int .i64 (IE.lit 0) (AL.int .i64 (IE.lit 0) AL.nil))))) (IE.sub (IE.add (IE.add (IE.lit 0) (IE.fn .i64 2 (AL.lst (LE.rom 0) (AL.int .i64 (IE.var .i64 1) AL.nil)))) (IE.sub (IE.len (LE.rom 0)) (IE.add (IE.fn .i64 2 (AL.lst (LE.rom 0) (AL.int .i64 (IE.var .i64 1) AL.nil))) (IE.lit 1)))) (IE.lit 0))) (IE.fn .i64 2 (AL.lst (LE.rom 0) (AL.int .i64 (IE.var .i64 1) AL.nil))))) (IE.fn .i64 2 (AL.lst (LE.rom 0) (AL.int .i64 (IE.var .i64 1) AL.nil)))) (LE.take (LE.rom 0) (IE.sub (IE.len (LE.rom 0)) (IE.add (IE.fn .i64 2 (AL.lst (LE.rom 0) (AL.int .i64 (IE.var .i64 1) AL.nil))) (IE.lit 1))))) (LE.drop (LE.cat (LE.cat (LE.take (LE.rep (AL.int .i64 (IE.lit 0) (AL.int .i64 (IE.lit 0) (AL.int .i64 (IE.lit 0) (AL.int .i64 (IE.lit 0) (AL.int .i64 (IE.lit 0) AL.nil))))) (IE.sub (IE.add (IE.add (IE.lit 0) (IE.fn .i64 2 (AL.lst (LE.rom 0) (AL.int .i64 (IE.var .i64 1) AL.nil)))) (IE.sub (IE.len (LE.rom 0)) (IE.add (IE.fn .i64 2 (AL.lst (LE.rom 0) (AL.int .i64 (IE.var .i64 1) AL.nil))) (IE.lit 1)))) (IE.lit 0))) (IE.lit 0)) (LE.take (LE.rom 0) (IE.fn .i64 2 (AL.lst (LE.rom 0) (AL.int .i64 (IE.var .i64 1) AL.nil))))) (LE.drop (LE.rep (AL.int .i64 (IE.lit 0) (AL.int .i64 (IE.lit 0) (AL.int .i64 (IE.lit 0) (AL.int .i64 (IE.lit 0) (AL.int .i64 (IE.lit 0) AL.nil))))) (IE.sub (IE.add (IE.add (IE.lit 0) (IE.fn .i64 2 (AL.lst (LE.rom 0) (AL.int .i64 (IE.var .i64 1) AL.nil)))) (IE.sub (IE.len (LE.rom 0)) (IE.add (IE.fn .i64 2 (AL.lst (LE.rom 0) (AL.int .i64 (IE.var .i64 1) AL.nil))) (IE.lit 1)))) (IE.lit 0))) (IE.fn .i64 2 (AL.lst (LE.rom 0) (AL.int .i64 (IE.var .i64 1) AL.nil))))) (IE.add (IE.fn .i64 2 (AL.lst (LE.rom 0) (AL.int .i64 (IE.var .i64 1) AL.nil))) (IE.sub (IE.len (LE.rom 0)) (IE.add (IE.fn .i64 2 (AL.lst (LE.rom 0) (AL.int .i64 (IE.var .i64 1) AL.nil))) (IE.lit 1))))))), (G.i (IE.len (LE.fn 8 (AL.lst (LE.rom 0) (AL.int .i64 (IE.var .i64 1) AL.nil)))) (IE.sub (IE.add (IE.add (IE.lit 0) (IE.fn .i64 2 (AL.lst (LE.rom 0) (AL.int .i64 (IE.var .i64 1) AL.nil)))) (IE.sub (IE.len (LE.rom 0)) (IE.add (IE.fn .i64 2 (AL.lst (LE.rom 0) (AL.int .i64 (IE.var .i64 1) AL.nil))) (IE.lit 1)))) (IE.lit 0)))]))
def wdropOk_2 : VW := (VW.done ((BE.not (BE.eq (IE.rcap 0) (IE.add (IE.fn .i64 2 (AL.lst (LE.rom 0) (AL.int .i64 (IE.var .i64 1) AL.nil))) (IE.lit 1)))) :: pcdropOk_2) (some [(G.i (IE.len (LE.fn 8 (AL.lst (LE.rom 0) (AL.int .i64 (IE.var .i64 1) AL.nil)))) (IE.add (IE.fn .i64 2 (AL.lst (LE.rom 0) (AL.int .i64 (IE.var .i64 1) AL.nil))) (IE.sub (IE.len (LE.rom 0)) (IE.add (IE.fn .i64 2 (AL.lst (LE.rom 0) (AL.int .i64 (IE.var .i64 1) AL.nil))) (IE.lit 1))))), (G.l (LE.fn 8 (AL.lst (LE.rom 0) (AL.int .i64 (IE.var .i64 1) AL.nil))) (LE.cat (LE.cat (LE.take (LE.cat (LE.cat (LE.take (LE.rep (AL.int .i64 (IE.lit 0) (AL.int .i64 (IE.lit 0) (AL.int .i64 (IE.lit 0) (AL.int .i64 (IE.lit 0) (AL.int .i64 (IE.lit 0) AL.nil))))) (IE.sub (IE.add (IE.add (IE.lit 0) (IE.fn .i64 2 (AL.lst (LE.rom 0) (AL.int .i64 (IE.var .i64 1) AL.nil)))) (IE.sub (IE.len (LE.rom 0)) (IE.add (IE.fn .i64 2 (AL.lst (LE.rom 0) (AL.int .i64 (IE.var .i64 1) AL.nil))) (IE.lit 1)))) (IE.lit 0))) (IE.lit 0)) (LE.take (LE.rom 0) (IE.fn .i64 2 (AL.lst (LE.rom 0) (AL.int .i64 (IE.var .i64 1) AL.nil))))) (LE.drop (LE.rep (AL.int .i64 (IE.lit 0) (AL.int .i64 (IE.lit 0) (AL.int .i64 (IE.lit 0) (AL.int .i64 (IE.lit 0) (AL.int .i64 (IE.lit 0) AL.nil))))) (IE.sub (IE.add (IE.add (IE.lit 0) (IE.fn .i64 2 (AL.lst (LE.rom 0) (AL.int .i64 (IE.var .i64 1) AL.nil)))) (IE.sub (IE.len (LE.rom 0)) (IE.add (IE.fn .i64 2 (AL.lst (LE.rom 0) (AL.int .i64 (IE.var .i64 1) AL.nil))) (IE.lit 1)))) (IE.lit 0))) (IE.fn .i64 2 (AL.lst (LE.rom 0) (AL.int .i64 (IE.var .i64 1) AL.nil))))) (IE.fn .i64 2 (AL.lst (LE.rom 0) (AL.int .i64 (IE.var .i64 1) AL.nil)))) (LE.drop (LE.rom 0) (IE.add (IE.fn .i64 2 (AL.lst (LE.rom 0) (AL.int .i64 (IE.var .i64 1) AL.nil))) (IE.lit 1)))) (LE.drop (LE.cat (LE.cat (LE.take (LE.rep (AL.int .i64 (IE.lit 0) (AL.int .i64 (IE.lit 0) (AL.int .i64 (IE.lit 0) (AL.int .i64 (IE.lit 0) (AL.int .i64 (IE.lit 0) AL.nil))))) (IE.sub (IE.add (IE.add (IE.lit 0) (IE.fn .i64 2 (AL.lst (LE.rom 0) (AL.int .i64 (IE.var .i64 1) AL.nil)))) (IE.sub (IE.len (LE.rom 0)) (IE.add (IE.fn .i64 2 (AL.lst (LE.rom 0) (AL.int .i64 (IE.var .i64 1) AL.nil))) (IE.lit 1)))) (IE.lit 0))) (IE.lit 0)) (LE.take (LE.rom 0) (IE.fn .i64 2 (AL.lst (LE.rom 0) (AL.int .i64 (IE.var .i64 1) AL.nil))))) (LE.drop (LE.rep (AL.int .i64 (IE.lit 0) (AL.int .i64 (IE.lit 0) (AL.int .i64 (IE.lit 0) (AL.int .i64 (IE.lit 0) (AL.int .i64 (IE.lit 0) AL.nil))))) (IE.sub (IE.add (IE.add (IE.lit 0) (IE.fn .i64 2 (AL.lst (LE.rom 0) (AL.int .i64 (IE.var .i64 1) AL.nil)))) (IE.sub (IE.len (LE.rom 0)) (IE.add (IE.fn .i64 2 (AL.lst (LE.rom 0) (AL.int .i64 (IE.var .i64 1) AL.nil))) (IE.lit 1)))) (IE.lit 0))) (IE.fn .i64 2 (AL.lst (LE.rom 0) (AL.int .i64 (IE.var .i64 1) AL.nil))))) (IE.add (IE.fn .i64 2 (AL.lst (LE.rom 0) (AL.int .i64 (IE.var .i64 1) AL.nil))) (IE.sub (IE.len (LE.rom 0)) (IE.add (IE.fn .i64 2 (AL.lst (LE.rom 0) (AL.int .i64 (IE.var .i64 1) AL.nil))) (IE.lit 1))))))), (G.i (IE.len (LE.fn 8 (AL.lst (LE.rom 0) (AL.int .i64 (IE.var .i64 1) AL.nil)))) (IE.sub (IE.add (IE.add (IE.lit 0) (IE.fn .i64 2 (AL.lst (LE.rom 0) (AL.int .i64 (IE.var .i64 1) AL.nil)))) (IE.sub (IE.len (LE.rom 0)) (IE.add (IE.fn .i64 2 (AL.lst (LE.rom 0) (AL.int .i64 (IE.var .i64 1) AL.nil))) (IE.lit 1)))) (IE.lit 0)))]))
def wdropOk_3 : VW := (VW.done ((BE.not (BE.fn 4 (AL.lst (LE.rom 0) AL.nil))) :: pcdropOk_0) (some [(G.b (BE.lit true) (BE.lit false))]))
def vwdropOk : List VW := [wdropOk_0, wdropOk_1, wdropOk_2, wdropOk_3]
end
theorem vcdropOk_0 : VD TTdropOk (st0 cDropOk) wdropOk_0 := by
  intro ρ kn hp
  have hF : ρ.z.F = wt.Φ := kn.F
  simp only [h_nil, h_cons, d_le, d_eq, d_not, d_var, d_lit, d_cel, d_leq, d_fn, d_and, d_iff, IE.den, LE.den, AL.den, lenV, true_and, and_true, pcdropOk_1, pcdropOk_0, hF, pi2, pi5, pi6, pi7, pb1, pb2, pb4, pl4, pl6, pl8] at hp
  obtain ⟨p1, p2, p3, p4, p5⟩ := hp
  exfalso
  all_goals
    have b2 : findN (ρ.z.rl 0) (ρ.i .i64 1) (ρ.z.rl 0).length ≤ (ρ.z.rl 0).length := first_le _ _
    have hcap := kn.cap 0 _ _ rfl
    simp only [find_in (l := ρ.z.rl 0) (s := ρ.i .i64 1) (by omega), dropE_in] at *
    first
      | (have q := drop2 (s := ρ.i .i64 1) (by assumption : ¬ queueL (ρ.z.rl 0) = true); omega)
      | (have q := drop5 (l := ρ.z.rl 0) (s := ρ.i .i64 1) (by assumption) (by omega); omega)
      | (have q := drop0 (l := ρ.z.rl 0) (s := ρ.i .i64 1) (by assumption) (by omega)
         have hf : findN (ρ.z.rl 0) (ρ.i .i64 1) (ρ.z.rl 0).length < (ρ.z.rl 0).length := by omega
         have hl := cut_len hf
         first
           | omega
           | (rw [q.2, hl]; omega)
           | (rw [q.2]
              clear hl q
              generalize findN (ρ.z.rl 0) (ρ.i .i64 1) (ρ.z.rl 0).length = f at *
              have t1 : ((f : Int) + 1).toNat = f + 1 := by omega
              rw [cutL]
              simp only [Int.toNat_natCast, t1]
              first
                | exact (put2 (a := (f : Int)) (Z := List.replicate _ _) (A := List.take f (ρ.z.rl 0)) (B := List.drop (f + 1) (ρ.z.rl 0)) (by rw [List.length_replicate]; omega) (by rw [List.length_take]; omega) (by rw [List.length_drop]; omega)).symm
                | (have d : List.drop (f + 1) (ρ.z.rl 0) = [] := List.drop_eq_nil_of_le (by omega)
                   rw [d]
                   rw [show ((((ρ.z.rl 0).length : Nat) : Int) - ((f : Int) + 1)).toNat = 0 by omega, List.take_zero]
                   exact (put2 (a := (f : Int)) (Z := List.replicate _ _) (A := List.take f (ρ.z.rl 0)) (B := []) (by rw [List.length_replicate]; omega) (by rw [List.length_take]; omega) (by simp; omega)).symm)))
theorem vcdropOk_1 : VD TTdropOk (st0 cDropOk) wdropOk_1 := by
  intro ρ kn hp
  have hF : ρ.z.F = wt.Φ := kn.F
  simp only [h_nil, h_cons, d_le, d_eq, d_not, d_var, d_lit, d_cel, d_leq, d_fn, d_and, d_iff, IE.den, LE.den, AL.den, lenV, true_and, and_true, pcdropOk_2, pcdropOk_1, pcdropOk_0, hF, pi2, pi5, pi6, pi7, pb1, pb2, pb4, pl4, pl6, pl8] at hp
  obtain ⟨p1, p2, p3, p4, p5, p6, p7, p8⟩ := hp
  refine all_cons (show (((ρ.z.F.l 8 [.lst (ρ.z.rl 0), .int .i64 (ρ.i .i64 1)]).length : Nat) : Int) = ((clampK .i64 (ρ.z.F.i 2 [.lst (ρ.z.rl 0), .int .i64 (ρ.i .i64 1)])) + ((((ρ.z.rl 0).length : Nat) : Int) - ((clampK .i64 (ρ.z.F.i 2 [.lst (ρ.z.rl 0), .int .i64 (ρ.i .i64 1)])) + (1 : Int)))) from ?_) (all_cons (show (ρ.z.F.l 8 [.lst (ρ.z.rl 0), .int .i64 (ρ.i .i64 1)]) = (((((((List.replicate ((((0 : Int) + (clampK .i64 (ρ.z.F.i 2 [.lst (ρ.z.rl 0), .int .i64 (ρ.i .i64 1)]))) + ((((ρ.z.rl 0).length : Nat) : Int) - ((clampK .i64 (ρ.z.F.i 2 [.lst (ρ.z.rl 0), .int .i64 (ρ.i .i64 1)])) + (1 : Int)))) - (0 : Int)).toNat [Go.Value.int .i64 (0 : Int), Go.Value.int .i64 (0 : Int), Go.Value.int .i64 (0 : Int), Go.Value.int .i64 (0 : Int), Go.Value.int .i64 (0 : Int)]).take (0 : Int).toNat) ++ ((ρ.z.rl 0).take (clampK .i64 (ρ.z.F.i 2 [.lst (ρ.z.rl 0), .int .i64 (ρ.i .i64 1)])).toNat)) ++ ((List.replicate ((((0 : Int) + (clampK .i64 (ρ.z.F.i 2 [.lst (ρ.z.rl 0), .int .i64 (ρ.i .i64 1)]))) + ((((ρ.z.rl 0).length : Nat) : Int) - ((clampK .i64 (ρ.z.F.i 2 [.lst (ρ.z.rl 0), .int .i64 (ρ.i .i64 1)])) + (1 : Int)))) - (0 : Int)).toNat [Go.Value.int .i64 (0 : Int), Go.Value.int .i64 (0 : Int), Go.Value.int .i64 (0 : Int), Go.Value.int .i64 (0 : Int), Go.Value.int .i64 (0 : Int)]).drop (clampK .i64 (ρ.z.F.i 2 [.lst (ρ.z.rl 0), .int .i64 (ρ.i .i64 1)])).toNat)).take (clampK .i64 (ρ.z.F.i 2 [.lst (ρ.z.rl 0), .int .i64 (ρ.i .i64 1)])).toNat) ++ ((ρ.z.rl 0).take ((((ρ.z.rl 0).length : Nat) : Int) - ((clampK .i64 (ρ.z.F.i 2 [.lst (ρ.z.rl 0), .int .i64 (ρ.i .i64 1)])) + (1 : Int))).toNat)) ++ (((((List.replicate ((((0 : Int) + (clampK .i64 (ρ.z.F.i 2 [.lst (ρ.z.rl 0), .int .i64 (ρ.i .i64 1)]))) + ((((ρ.z.rl 0).length : Nat) : Int) - ((clampK .i64 (ρ.z.F.i 2 [.lst (ρ.z.rl 0), .int .i64 (ρ.i .i64 1)])) + (1 : Int)))) - (0 : Int)).toNat [Go.Value.int .i64 (0 : Int), Go.Value.int .i64 (0 : Int), Go.Value.int .i64 (0 : Int), Go.Value.int .i64 (0 : Int), Go.Value.int .i64 (0 : Int)]).take (0 : Int).toNat) ++ ((ρ.z.rl 0).take (clampK .i64 (ρ.z.F.i 2 [.lst (ρ.z.rl 0), .int .i64 (ρ.i .i64 1)])).toNat)) ++ ((List.replicate ((((0 : Int) + (clampK .i64 (ρ.z.F.i 2 [.lst (ρ.z.rl 0), .int .i64 (ρ.i .i64 1)]))) + ((((ρ.z.rl 0).length : Nat) : Int) - ((clampK .i64 (ρ.z.F.i 2 [.lst (ρ.z.rl 0), .int .i64 (ρ.i .i64 1)])) + (1 : Int)))) - (0 : Int)).toNat [Go.Value.int .i64 (0 : Int), Go.Value.int .i64 (0 : Int), Go.Value.int .i64 (0 : Int), Go.Value.int .i64 (0 : Int), Go.Value.int .i64 (0 : Int)]).drop (clampK .i64 (ρ.z.F.i 2 [.lst (ρ.z.rl 0), .int .i64 (ρ.i .i64 1)])).toNat)).drop ((clampK .i64 (ρ.z.F.i 2 [.lst (ρ.z.rl 0), .int .i64 (ρ.i .i64 1)])) + ((((ρ.z.rl 0).length : Nat) : Int) - ((clampK .i64 (ρ.z.F.i 2 [.lst (ρ.z.rl 0), .int .i64 (ρ.i .i64 1)])) + (1 : Int)))).toNat)) from ?_) (all_cons (show (((ρ.z.F.l 8 [.lst (ρ.z.rl 0), .int .i64 (ρ.i .i64 1)]).length : Nat) : Int) = ((((0 : Int) + (clampK .i64 (ρ.z.F.i 2 [.lst (ρ.z.rl 0), .int .i64 (ρ.i .i64 1)]))) + ((((ρ.z.rl 0).length : Nat) : Int) - ((clampK .i64 (ρ.z.F.i 2 [.lst (ρ.z.rl 0), .int .i64 (ρ.i .i64 1)])) + (1 : Int)))) - (0 : Int)) from ?_) (all_nil)))
  all_goals try simp only [hF, pi2, pi5, pi6, pi7, pb1, pb2, pb4, pl4, pl6, pl8]
  all_goals
    have b2 : findN (ρ.z.rl 0) (ρ.i .i64 1) (ρ.z.rl 0).length ≤ (ρ.z.rl 0).length := first_le _ _
    have hcap := kn.cap 0 _ _ rfl
    simp only [find_in (l := ρ.z.rl 0) (s := ρ.i .i64 1) (by omega), dropE_in] at *
    first
      | (have q := drop2 (s := ρ.i .i64 1) (by assumption : ¬ queueL (ρ.z.rl 0) = true); omega)
      | (have q := drop5 (l := ρ.z.rl 0) (s := ρ.i .i64 1) (by assumption) (by omega); omega)
      | (have q := drop0 (l := ρ.z.rl 0) (s := ρ.i .i64 1) (by assumption) (by omega)
         have hf : findN (ρ.z.rl 0) (ρ.i .i64 1) (ρ.z.rl 0).length < (ρ.z.rl 0).length := by omega
         have hl := cut_len hf
         first
           | omega
           | (rw [q.2, hl]; omega)
           | (rw [q.2]
              clear hl q
              generalize findN (ρ.z.rl 0) (ρ.i .i64 1) (ρ.z.rl 0).length = f at *
              have t1 : ((f : Int) + 1).toNat = f + 1 := by omega
              rw [cutL]
              simp only [Int.toNat_natCast, t1]
              first
                | exact (put2 (a := (f : Int)) (Z := List.replicate _ _) (A := List.take f (ρ.z.rl 0)) (B := List.drop (f + 1) (ρ.z.rl 0)) (by rw [List.length_replicate]; omega) (by rw [List.length_take]; omega) (by rw [List.length_drop]; omega)).symm
                | (have d : List.drop (f + 1) (ρ.z.rl 0) = [] := List.drop_eq_nil_of_le (by omega)
                   rw [d]
                   rw [show ((((ρ.z.rl 0).length : Nat) : Int) - ((f : Int) + 1)).toNat = 0 by omega, List.take_zero]
                   exact (put2 (a := (f : Int)) (Z := List.replicate _ _) (A := List.take f (ρ.z.rl 0)) (B := []) (by rw [List.length_replicate]; omega) (by rw [List.length_take]; omega) (by simp; omega)).symm)))
theorem vcdropOk_2 : VD TTdropOk (st0 cDropOk) wdropOk_2 := by
  intro ρ kn hp
  have hF : ρ.z.F = wt.Φ := kn.F
  simp only [h_nil, h_cons, d_le, d_eq, d_not, d_var, d_lit, d_cel, d_leq, d_fn, d_and, d_iff, IE.den, LE.den, AL.den, lenV, true_and, and_true, pcdropOk_2, pcdropOk_1, pcdropOk_0, hF, pi2, pi5, pi6, pi7, pb1, pb2, pb4, pl4, pl6, pl8] at hp
  obtain ⟨p1, p2, p3, p4, p5, p6, p7, p8⟩ := hp
  refine all_cons (show (((ρ.z.F.l 8 [.lst (ρ.z.rl 0), .int .i64 (ρ.i .i64 1)]).length : Nat) : Int) = ((clampK .i64 (ρ.z.F.i 2 [.lst (ρ.z.rl 0), .int .i64 (ρ.i .i64 1)])) + ((((ρ.z.rl 0).length : Nat) : Int) - ((clampK .i64 (ρ.z.F.i 2 [.lst (ρ.z.rl 0), .int .i64 (ρ.i .i64 1)])) + (1 : Int)))) from ?_) (all_cons (show (ρ.z.F.l 8 [.lst (ρ.z.rl 0), .int .i64 (ρ.i .i64 1)]) = (((((((List.replicate ((((0 : Int) + (clampK .i64 (ρ.z.F.i 2 [.lst (ρ.z.rl 0), .int .i64 (ρ.i .i64 1)]))) + ((((ρ.z.rl 0).length : Nat) : Int) - ((clampK .i64 (ρ.z.F.i 2 [.lst (ρ.z.rl 0), .int .i64 (ρ.i .i64 1)])) + (1 : Int)))) - (0 : Int)).toNat [Go.Value.int .i64 (0 : Int), Go.Value.int .i64 (0 : Int), Go.Value.int .i64 (0 : Int), Go.Value.int .i64 (0 : Int), Go.Value.int .i64 (0 : Int)]).take (0 : Int).toNat) ++ ((ρ.z.rl 0).take (clampK .i64 (ρ.z.F.i 2 [.lst (ρ.z.rl 0), .int .i64 (ρ.i .i64 1)])).toNat)) ++ ((List.replicate ((((0 : Int) + (clampK .i64 (ρ.z.F.i 2 [.lst (ρ.z.rl 0), .int .i64 (ρ.i .i64 1)]))) + ((((ρ.z.rl 0).length : Nat) : Int) - ((clampK .i64 (ρ.z.F.i 2 [.lst (ρ.z.rl 0), .int .i64 (ρ.i .i64 1)])) + (1 : Int)))) - (0 : Int)).toNat [Go.Value.int .i64 (0 : Int), Go.Value.int .i64 (0 : Int), Go.Value.int .i64 (0 : Int), Go.Value.int .i64 (0 : Int), Go.Value.int .i64 (0 : Int)]).drop (clampK .i64 (ρ.z.F.i 2 [.lst (ρ.z.rl 0), .int .i64 (ρ.i .i64 1)])).toNat)).take (clampK .i64 (ρ.z.F.i 2 [.lst (ρ.z.rl 0), .int .i64 (ρ.i .i64 1)])).toNat) ++ ((ρ.z.rl 0).drop ((clampK .i64 (ρ.z.F.i 2 [.lst (ρ.z.rl 0), .int .i64 (ρ.i .i64 1)])) + (1 : Int)).toNat)) ++ (((((List.replicate ((((0 : Int) + (clampK .i64 (ρ.z.F.i 2 [.lst (ρ.z.rl 0), .int .i64 (ρ.i .i64 1)]))) + ((((ρ.z.rl 0).length : Nat) : Int) - ((clampK .i64 (ρ.z.F.i 2 [.lst (ρ.z.rl 0), .int .i64 (ρ.i .i64 1)])) + (1 : Int)))) - (0 : Int)).toNat [Go.Value.int .i64 (0 : Int), Go.Value.int .i64 (0 : Int), Go.Value.int .i64 (0 : Int), Go.Value.int .i64 (0 : Int), Go.Value.int .i64 (0 : Int)]).take (0 : Int).toNat) ++ ((ρ.z.rl 0).take (clampK .i64 (ρ.z.F.i 2 [.lst (ρ.z.rl 0), .int .i64 (ρ.i .i64 1)])).toNat)) ++ ((List.replicate ((((0 : Int) + (clampK .i64 (ρ.z.F.i 2 [.lst (ρ.z.rl 0), .int .i64 (ρ.i .i64 1)]))) + ((((ρ.z.rl 0).length : Nat) : Int) - ((clampK .i64 (ρ.z.F.i 2 [.lst (ρ.z.rl 0), .int .i64 (ρ.i .i64 1)])) + (1 : Int)))) - (0 : Int)).toNat [Go.Value.int .i64 (0 : Int), Go.Value.int .i64 (0 : Int), Go.Value.int .i64 (0 : Int), Go.Value.int .i64 (0 : Int), Go.Value.int .i64 (0 : Int)]).drop (clampK .i64 (ρ.z.F.i 2 [.lst (ρ.z.rl 0), .int .i64 (ρ.i .i64 1)])).toNat)).drop ((clampK .i64 (ρ.z.F.i 2 [.lst (ρ.z.rl 0), .int .i64 (ρ.i .i64 1)])) + ((((ρ.z.rl 0).length : Nat) : Int) - ((clampK .i64 (ρ.z.F.i 2 [.lst (ρ.z.rl 0), .int .i64 (ρ.i .i64 1)])) + (1 : Int)))).toNat)) from ?_) (all_cons (show (((ρ.z.F.l 8 [.lst (ρ.z.rl 0), .int .i64 (ρ.i .i64 1)]).length : Nat) : Int) = ((((0 : Int) + (clampK .i64 (ρ.z.F.i 2 [.lst (ρ.z.rl 0), .int .i64 (ρ.i .i64 1)]))) + ((((ρ.z.rl 0).length : Nat) : Int) - ((clampK .i64 (ρ.z.F.i 2 [.lst (ρ.z.rl 0), .int .i64 (ρ.i .i64 1)])) + (1 : Int)))) - (0 : Int)) from ?_) (all_nil)))
  all_goals try simp only [hF, pi2, pi5, pi6, pi7, pb1, pb2, pb4, pl4, pl6, pl8]
  all_goals
    have b2 : findN (ρ.z.rl 0) (ρ.i .i64 1) (ρ.z.rl 0).length ≤ (ρ.z.rl 0).length := first_le _ _
    have hcap := kn.cap 0 _ _ rfl
    simp only [find_in (l := ρ.z.rl 0) (s := ρ.i .i64 1) (by omega), dropE_in] at *
    first
      | (have q := drop2 (s := ρ.i .i64 1) (by assumption : ¬ queueL (ρ.z.rl 0) = true); omega)
      | (have q := drop5 (l := ρ.z.rl 0) (s := ρ.i .i64 1) (by assumption) (by omega); omega)
      | (have q := drop0 (l := ρ.z.rl 0) (s := ρ.i .i64 1) (by assumption) (by omega)
         have hf : findN (ρ.z.rl 0) (ρ.i .i64 1) (ρ.z.rl 0).length < (ρ.z.rl 0).length := by omega
         have hl := cut_len hf
         first
           | omega
           | (rw [q.2, hl]; omega)
           | (rw [q.2]
              clear hl q
              generalize findN (ρ.z.rl 0) (ρ.i .i64 1) (ρ.z.rl 0).length = f at *
              have t1 : ((f : Int) + 1).toNat = f + 1 := by omega
              rw [cutL]
              simp only [Int.toNat_natCast, t1]
              first
                | exact (put2 (a := (f : Int)) (Z := List.replicate _ _) (A := List.take f (ρ.z.rl 0)) (B := List.drop (f + 1) (ρ.z.rl 0)) (by rw [List.length_replicate]; omega) (by rw [List.length_take]; omega) (by rw [List.length_drop]; omega)).symm
                | (have d : List.drop (f + 1) (ρ.z.rl 0) = [] := List.drop_eq_nil_of_le (by omega)
                   rw [d]
                   rw [show ((((ρ.z.rl 0).length : Nat) : Int) - ((f : Int) + 1)).toNat = 0 by omega, List.take_zero]
                   exact (put2 (a := (f : Int)) (Z := List.replicate _ _) (A := List.take f (ρ.z.rl 0)) (B := []) (by rw [List.length_replicate]; omega) (by rw [List.length_take]; omega) (by simp; omega)).symm)))
theorem vcdropOk_3 : VD TTdropOk (st0 cDropOk) wdropOk_3 := by
  intro ρ kn hp
  have hF : ρ.z.F = wt.Φ := kn.F
  simp only [h_nil, h_cons, d_le, d_eq, d_not, d_var, d_lit, d_cel, d_leq, d_fn, d_and, d_iff, IE.den, LE.den, AL.den, lenV, true_and, and_true, pcdropOk_0, hF, pi2, pi5, pi6, pi7, pb1, pb2, pb4, pl4, pl6, pl8] at hp
  obtain ⟨p1, p2, p3, p4⟩ := hp
  exfalso
  all_goals
    have b2 : findN (ρ.z.rl 0) (ρ.i .i64 1) (ρ.z.rl 0).length ≤ (ρ.z.rl 0).length := first_le _ _
    have hcap := kn.cap 0 _ _ rfl
    simp only [find_in (l := ρ.z.rl 0) (s := ρ.i .i64 1) (by omega), dropE_in] at *
    first
      | (have q := drop2 (s := ρ.i .i64 1) (by assumption : ¬ queueL (ρ.z.rl 0) = true); omega)
      | (have q := drop5 (l := ρ.z.rl 0) (s := ρ.i .i64 1) (by assumption) (by omega); omega)
      | (have q := drop0 (l := ρ.z.rl 0) (s := ρ.i .i64 1) (by assumption) (by omega)
         have hf : findN (ρ.z.rl 0) (ρ.i .i64 1) (ρ.z.rl 0).length < (ρ.z.rl 0).length := by omega
         have hl := cut_len hf
         first
           | omega
           | (rw [q.2, hl]; omega)
           | (rw [q.2]
              clear hl q
              generalize findN (ρ.z.rl 0) (ρ.i .i64 1) (ρ.z.rl 0).length = f at *
              have t1 : ((f : Int) + 1).toNat = f + 1 := by omega
              rw [cutL]
              simp only [Int.toNat_natCast, t1]
              first
                | exact (put2 (a := (f : Int)) (Z := List.replicate _ _) (A := List.take f (ρ.z.rl 0)) (B := List.drop (f + 1) (ρ.z.rl 0)) (by rw [List.length_replicate]; omega) (by rw [List.length_take]; omega) (by rw [List.length_drop]; omega)).symm
                | (have d : List.drop (f + 1) (ρ.z.rl 0) = [] := List.drop_eq_nil_of_le (by omega)
                   rw [d]
                   rw [show ((((ρ.z.rl 0).length : Nat) : Int) - ((f : Int) + 1)).toNat = 0 by omega, List.take_zero]
                   exact (put2 (a := (f : Int)) (Z := List.replicate _ _) (A := List.take f (ρ.z.rl 0)) (B := []) (by rw [List.length_replicate]; omega) (by rw [List.length_take]; omega) (by simp; omega)).symm)))
theorem told_dropOk : Sx.Told wt.Φ cDropOk := told_vw (cs := [cQueueP, cQueueR, cMayP, cMayR, cRFin, cRFout, cFindIn, cFindOut, cFindNo]) (all_cons told_queueP (all_cons told_queueR (all_cons told_mayP (all_cons told_mayR (all_cons told_rfin (all_cons told_rfout (all_cons told_findIn (all_cons told_findOut (all_cons told_findNo (all_nil)))))))))) 9000 vwdropOk (by kernel_rfl) (by kernel_rfl) (by kernel_rfl) post_dropOk (by kernel_rfl) (by kernel_rfl) (all_cons vcdropOk_0 (all_cons vcdropOk_1 (all_cons vcdropOk_2 (all_cons vcdropOk_3 (all_nil)))))
noncomputable section
abbrev TTdropNo : Tab := T wt.Φ cDropNo.roms [cQueueP, cQueueR, cMayP, cMayR, cRFin, cRFout, cFindIn, cFindOut, cFindNo]
def pcdropNo_0 : List BE := [(BE.lit true), (BE.le (IE.len (LE.rom 0)) (IE.lit 1000)), (BE.le (IE.lit 2) (IE.len (LE.rom 0))), (BE.not (BE.eq (IE.fn .i64 6 (AL.lst (LE.rom 0) (AL.int .i64 (IE.var .i64 1) AL.nil))) (IE.lit 0)))]
def pcdropNo_1 : List BE := ((BE.fn 4 (AL.lst (LE.rom 0) AL.nil)) :: pcdropNo_0)
def pcdropNo_2 : List BE := ((BE.le (IE.lit 0) (IE.fn .i64 2 (AL.lst (LE.rom 0) (AL.int .i64 (IE.var .i64 1) AL.nil)))) :: (BE.le (IE.fn .i64 2 (AL.lst (LE.rom 0) (AL.int .i64 (IE.var .i64 1) AL.nil))) (IE.len (LE.rom 0))) :: (BE.not (BE.le (IE.len (LE.rom 0)) (IE.fn .i64 2 (AL.lst (LE.rom 0) (AL.int .i64 (IE.var .i64 1) AL.nil))))) :: pcdropNo_1)
def wdropNo_0 : VW := (VW.done ((BE.le (IE.len (LE.rom 0)) (IE.fn .i64 2 (AL.lst (LE.rom 0) (AL.int .i64 (IE.var .i64 1) AL.nil)))) :: pcdropNo_1) (some [(G.i (IE.fn .i64 6 (AL.lst (LE.rom 0) (AL.int .i64 (IE.var .i64 1) AL.nil))) (IE.lit 5))]))
def wdropNo_1 : VW := (VW.done ((BE.eq (IE.rcap 0) (IE.add (IE.fn .i64 2 (AL.lst (LE.rom 0) (AL.int .i64 (IE.var .i64 1) AL.nil))) (IE.lit 1))) :: pcdropNo_2) (some [(G.b (BE.lit true) (BE.lit false))]))
def wdropNo_2 : VW := (VW.done ((BE.not (BE.eq (IE.rcap 0) (IE.add (IE.fn .i64 2 (AL.lst (LE.rom 0) (AL.int .i64 (IE.var .i64 1) AL.nil))) (IE.lit 1)))) :: pcdropNo_2) (some [(G.b (BE.lit true) (BE.lit false))]))
def wdropNo_3 : VW := (VW.done ((BE.not (BE.fn 4 (AL.lst (LE.rom 0) AL.nil))) :: pcdropNo_0) (some [(G.i (IE.fn .i64 6 (AL.lst (LE.rom 0) (AL.int .i64 (IE.var .i64 1) AL.nil))) (IE.lit 2))]))
def vwdropNo : List VW := [wdropNo_0, wdropNo_1, wdropNo_2, wdropNo_3]
end
theorem vcdropNo_0 : VD TTdropNo (st0 cDropNo) wdropNo_0 := by
  intro ρ kn hp
  have hF : ρ.z.F = wt.Φ := kn.F
  simp only [h_nil, h_cons, d_le, d_eq, d_not, d_var, d_lit, d_cel, d_leq, d_fn, d_and, d_iff, IE.den, LE.den, AL.den, lenV, true_and, and_true, pcdropNo_1, pcdropNo_0, hF, pi2, pi5, pi6, pi7, pb1, pb2, pb4, pl4, pl6, pl8] at hp
  obtain ⟨p1, p2, p3, p4, p5⟩ := hp
  refine all_cons (show (clampK .i64 (ρ.z.F.i 6 [.lst (ρ.z.rl 0), .int .i64 (ρ.i .i64 1)])) = (5 : Int) from ?_) (all_nil)
  all_goals try simp only [hF, pi2, pi5, pi6, pi7, pb1, pb2, pb4, pl4, pl6, pl8]
  all_goals
    have b2 : findN (ρ.z.rl 0) (ρ.i .i64 1) (ρ.z.rl 0).length ≤ (ρ.z.rl 0).length := first_le _ _
    have hcap := kn.cap 0 _ _ rfl
    simp only [find_in (l := ρ.z.rl 0) (s := ρ.i .i64 1) (by omega), dropE_in] at *
    first
      | (have q := drop2 (s := ρ.i .i64 1) (by assumption : ¬ queueL (ρ.z.rl 0) = true); omega)
      | (have q := drop5 (l := ρ.z.rl 0) (s := ρ.i .i64 1) (by assumption) (by omega); omega)
      | (have q := drop0 (l := ρ.z.rl 0) (s := ρ.i .i64 1) (by assumption) (by omega)
         have hf : findN (ρ.z.rl 0) (ρ.i .i64 1) (ρ.z.rl 0).length < (ρ.z.rl 0).length := by omega
         have hl := cut_len hf
         first
           | omega
           | (rw [q.2, hl]; omega)
           | (rw [q.2]
              clear hl q
              generalize findN (ρ.z.rl 0) (ρ.i .i64 1) (ρ.z.rl 0).length = f at *
              have t1 : ((f : Int) + 1).toNat = f + 1 := by omega
              rw [cutL]
              simp only [Int.toNat_natCast, t1]
              skip))
theorem vcdropNo_1 : VD TTdropNo (st0 cDropNo) wdropNo_1 := by
  intro ρ kn hp
  have hF : ρ.z.F = wt.Φ := kn.F
  simp only [h_nil, h_cons, d_le, d_eq, d_not, d_var, d_lit, d_cel, d_leq, d_fn, d_and, d_iff, IE.den, LE.den, AL.den, lenV, true_and, and_true, pcdropNo_2, pcdropNo_1, pcdropNo_0, hF, pi2, pi5, pi6, pi7, pb1, pb2, pb4, pl4, pl6, pl8] at hp
  obtain ⟨p1, p2, p3, p4, p5, p6, p7, p8⟩ := hp
  exfalso
  all_goals
    have b2 : findN (ρ.z.rl 0) (ρ.i .i64 1) (ρ.z.rl 0).length ≤ (ρ.z.rl 0).length := first_le _ _
    have hcap := kn.cap 0 _ _ rfl
    simp only [find_in (l := ρ.z.rl 0) (s := ρ.i .i64 1) (by omega), dropE_in] at *
    first
      | (have q := drop2 (s := ρ.i .i64 1) (by assumption : ¬ queueL (ρ.z.rl 0) = true); omega)
      | (have q := drop5 (l := ρ.z.rl 0) (s := ρ.i .i64 1) (by assumption) (by omega); omega)
      | (have q := drop0 (l := ρ.z.rl 0) (s := ρ.i .i64 1) (by assumption) (by omega)
         have hf : findN (ρ.z.rl 0) (ρ.i .i64 1) (ρ.z.rl 0).length < (ρ.z.rl 0).length := by omega
         have hl := cut_len hf
         first
           | omega
           | (rw [q.2, hl]; omega)
           | (rw [q.2]
              clear hl q
              generalize findN (ρ.z.rl 0) (ρ.i .i64 1) (ρ.z.rl 0).length = f at *
              have t1 : ((f : Int) + 1).toNat = f + 1 := by omega
              rw [cutL]
              simp only [Int.toNat_natCast, t1]
              skip))
theorem vcdropNo_2 : VD TTdropNo (st0 cDropNo) wdropNo_2 := by
  intro ρ kn hp
  have hF : ρ.z.F = wt.Φ := kn.F
  simp only [h_nil, h_cons, d_le, d_eq, d_not, d_var, d_lit, d_cel, d_leq, d_fn, d_and, d_iff, IE.den, LE.den, AL.den, lenV, true_and, and_true, pcdropNo_2, pcdropNo_1, pcdropNo_0, hF, pi2, pi5, pi6, pi7, pb1, pb2, pb4, pl4, pl6, pl8] at hp
  obtain ⟨p1, p2, p3, p4, p5, p6, p7, p8⟩ := hp
  exfalso
  all_goals
    have b2 : findN (ρ.z.rl 0) (ρ.i .i64 1) (ρ.z.rl 0).length ≤ (ρ.z.rl 0).length := first_le _ _
    have hcap := kn.cap 0 _ _ rfl
    simp only [find_in (l := ρ.z.rl 0) (s := ρ.i .i64 1) (by omega), dropE_in] at *
    first
      | (have q := drop2 (s := ρ.i .i64 1) (by assumption : ¬ queueL (ρ.z.rl 0) = true); omega)
      | (have q := drop5 (l := ρ.z.rl 0) (s := ρ.i .i64 1) (by assumption) (by omega); omega)
      | (have q := drop0 (l := ρ.z.rl 0) (s := ρ.i .i64 1) (by assumption) (by omega)
         have hf : findN (ρ.z.rl 0) (ρ.i .i64 1) (ρ.z.rl 0).length < (ρ.z.rl 0).length := by omega
         have hl := cut_len hf
         first
           | omega
           | (rw [q.2, hl]; omega)
           | (rw [q.2]
              clear hl q
              generalize findN (ρ.z.rl 0) (ρ.i .i64 1) (ρ.z.rl 0).length = f at *
              have t1 : ((f : Int) + 1).toNat = f + 1 := by omega
              rw [cutL]
              simp only [Int.toNat_natCast, t1]
              skip))
theorem vcdropNo_3 : VD TTdropNo (st0 cDropNo) wdropNo_3 := by
  intro ρ kn hp
  have hF : ρ.z.F = wt.Φ := kn.F
  simp only [h_nil, h_cons, d_le, d_eq, d_not, d_var, d_lit, d_cel, d_leq, d_fn, d_and, d_iff, IE.den, LE.den, AL.den, lenV, true_and, and_true, pcdropNo_0, hF, pi2, pi5, pi6, pi7, pb1, pb2, pb4, pl4, pl6, pl8] at hp
  obtain ⟨p1, p2, p3, p4⟩ := hp
  refine all_cons (show (clampK .i64 (ρ.z.F.i 6 [.lst (ρ.z.rl 0), .int .i64 (ρ.i .i64 1)])) = (2 : Int) from ?_) (all_nil)
  all_goals try simp only [hF, pi2, pi5, pi6, pi7, pb1, pb2, pb4, pl4, pl6, pl8]
  all_goals
    have b2 : findN (ρ.z.rl 0) (ρ.i .i64 1) (ρ.z.rl 0).length ≤ (ρ.z.rl 0).length := first_le _ _
    have hcap := kn.cap 0 _ _ rfl
    simp only [find_in (l := ρ.z.rl 0) (s := ρ.i .i64 1) (by omega), dropE_in] at *
    first
      | (have q := drop2 (s := ρ.i .i64 1) (by assumption : ¬ queueL (ρ.z.rl 0) = true); omega)
      | (have q := drop5 (l := ρ.z.rl 0) (s := ρ.i .i64 1) (by assumption) (by omega); omega)
      | (have q := drop0 (l := ρ.z.rl 0) (s := ρ.i .i64 1) (by assumption) (by omega)
         have hf : findN (ρ.z.rl 0) (ρ.i .i64 1) (ρ.z.rl 0).length < (ρ.z.rl 0).length := by omega
         have hl := cut_len hf
         first
           | omega
           | (rw [q.2, hl]; omega)
           | (rw [q.2]
              clear hl q
              generalize findN (ρ.z.rl 0) (ρ.i .i64 1) (ρ.z.rl 0).length = f at *
              have t1 : ((f : Int) + 1).toNat = f + 1 := by omega
              rw [cutL]
              simp only [Int.toNat_natCast, t1]
              skip))
theorem told_dropNo : Sx.Told wt.Φ cDropNo := told_vw (cs := [cQueueP, cQueueR, cMayP, cMayR, cRFin, cRFout, cFindIn, cFindOut, cFindNo]) (all_cons told_queueP (all_cons told_queueR (all_cons told_mayP (all_cons told_mayR (all_cons told_rfin (all_cons told_rfout (all_cons told_findIn (all_cons told_findOut (all_cons told_findNo (all_nil)))))))))) 9000 vwdropNo (by kernel_rfl) (by kernel_rfl) (by kernel_rfl) (post_nil rfl) (by kernel_rfl) (by kernel_rfl) (all_cons vcdropNo_0 (all_cons vcdropNo_1 (all_cons vcdropNo_2 (all_cons vcdropNo_3 (all_nil)))))
noncomputable section
abbrev TTrdropOk : Tab := T wt.Φ cRDropOk.roms [cQueueP, cQueueR, cMayP, cMayR, cRFin, cRFout, cFindIn, cFindOut, cFindNo]
def pcrdropOk_0 : List BE := [(BE.lit true), (BE.le (IE.len (LE.rom 0)) (IE.lit 1000)), (BE.le (IE.lit 2) (IE.len (LE.rom 0))), (BE.eq (IE.fn .i64 6 (AL.lst (LE.rom 0) (AL.int .i64 (IE.var .i64 1) AL.nil))) (IE.lit 0))]
def pcrdropOk_1 : List BE := ((BE.fn 4 (AL.lst (LE.rom 0) AL.nil)) :: pcrdropOk_0)
def pcrdropOk_2 : List BE := ((BE.le (IE.lit 0) (IE.fn .i64 2 (AL.lst (LE.rom 0) (AL.int .i64 (IE.var .i64 1) AL.nil)))) :: (BE.le (IE.fn .i64 2 (AL.lst (LE.rom 0) (AL.int .i64 (IE.var .i64 1) AL.nil))) (IE.len (LE.rom 0))) :: (BE.not (BE.le (IE.len (LE.rom 0)) (IE.fn .i64 2 (AL.lst (LE.rom 0) (AL.int .i64 (IE.var .i64 1) AL.nil))))) :: pcrdropOk_1)
def pcrdropOk_3 : List BE := ((BE.not (BE.le (IE.fn .i64 2 (AL.lst (LE.rom 0) (AL.int .i64 (IE.var .i64 1) AL.nil))) (IE.lit 0))) :: pcrdropOk_2)
def pcrdropOk_4 : List BE := ((BE.eq (IE.rcap 0) (IE.add (IE.fn .i64 2 (AL.lst (LE.rom 0) (AL.int .i64 (IE.var .i64 1) AL.nil))) (IE.lit 1))) :: pcrdropOk_3)
def pcrdropOk_5 : List BE := ((BE.not (BE.eq (IE.rcap 0) (IE.add (IE.fn .i64 2 (AL.lst (LE.rom 0) (AL.int .i64 (IE.var .i64 1) AL.nil))) (IE.lit 1)))) :: pcrdropOk_3)
def wrdropOk_0 : VW := (VW.done ((BE.le (IE.len (LE.rom 0)) (IE.fn .i64 2 (AL.lst (LE.rom 0) (AL.int .i64 (IE.var .i64 1) AL.nil)))) :: pcrdropOk_1) (some [(G.b (BE.lit true) (BE.lit false))]))
def wrdropOk_1 : VW := (VW.done ((BE.le (IE.fn .i64 2 (AL.lst (LE.rom 0) (AL.int .i64 (IE.var .i64 1) AL.nil))) (IE.lit 0)) :: pcrdropOk_2) (some [(G.i (IE.len (LE.fn 8 (AL.lst (LE.rom 0) (AL.int .i64 (IE.var .i64 1) AL.nil)))) (IE.sub (IE.len (LE.rom 0)) (IE.add (IE.fn .i64 2 (AL.lst (LE.rom 0) (AL.int .i64 (IE.var .i64 1) AL.nil))) (IE.lit 1)))), (G.l (LE.fn 8 (AL.lst (LE.rom 0) (AL.int .i64 (IE.var .i64 1) AL.nil))) (LE.drop (LE.rom 0) (IE.add (IE.fn .i64 2 (AL.lst (LE.rom 0) (AL.int .i64 (IE.var .i64 1) AL.nil))) (IE.lit 1)))), (G.i (IE.len (LE.fn 8 (AL.lst (LE.rom 0) (AL.int .i64 (IE.var .i64 1) AL.nil)))) (IE.sub (IE.len (LE.rom 0)) (IE.add (IE.fn .i64 2 (AL.lst (LE.rom 0) (AL.int .i64 (IE.var .i64 1) AL.nil))) (IE.lit 1))))]))
def wrdropOk_2 : VW := (VW.done ((BE.le (IE.add (IE.fn .i64 2 (AL.lst (LE.rom 0) (AL.int .i64 (IE.var .i64 1) AL.nil))) (IE.sub (IE.len (LE.rom 0)) (IE.add (IE.fn .i64 2 (AL.lst (LE.rom 0) (AL.int .i64 (IE.var .i64 1) AL.nil))) (IE.lit 1)))) (IE.fn .i64 2 (AL.lst (LE.rom 0) (AL.int .i64 (IE.var .i64 1) AL.nil)))) :: pcrdropOk_4) (some [(G.i (IE.len (LE.fn 8 (AL.lst (LE.rom 0) (AL.int .i64 (IE.var .i64 1) AL.nil)))) (IE.add (IE.fn .i64 2 (AL.lst (LE.rom 0) (AL.int .i64 (IE.var .i64 1) AL.nil))) (IE.sub (IE.len (LE.rom 0)) (IE.add (IE.fn .i64 2 (AL.lst (LE.rom 0) (AL.int .i64 (IE.var .i64 1) AL.nil))) (IE.lit 1))))), (G.l (LE.fn 8 (AL.lst (LE.rom 0) (AL.int .i64 (IE.var .i64 1) AL.nil))) (LE.cat (LE.cat (LE.take (LE.rom 0) (IE.fn .i64 2 (AL.lst (LE.rom 0) (AL.int .i64 (IE.var .i64 1) AL.nil)))) (LE.take (LE.rom 0) (IE.sub (IE.len (LE.rom 0)) (IE.add (IE.fn .i64 2 (AL.lst (LE.rom 0) (AL.int .i64 (IE.var .i64 1) AL.nil))) (IE.lit 1))))) (LE.drop (LE.take (LE.rom 0) (IE.fn .i64 2 (AL.lst (LE.rom 0) (AL.int .i64 (IE.var .i64 1) AL.nil)))) (IE.add (IE.fn .i64 2 (AL.lst (LE.rom 0) (AL.int .i64 (IE.var .i64 1) AL.nil))) (IE.sub (IE.len (LE.rom 0)) (IE.add (IE.fn .i64 2 (AL.lst (LE.rom 0) (AL.int .i64 (IE.var .i64 1) AL.nil))) (IE.lit 1))))))), (G.i (IE.len (LE.fn 8 (AL.lst (LE.rom 0) (AL.int .i64 (IE.var .i64 1) AL.nil)))) (IE.fn .i64 2 (AL.lst (LE.rom 0) (AL.int .i64 (IE.var .i64 1) AL.nil))))]))
def wrdropOk_3 : VW := (VW.done ((BE.not (BE.le (IE.add (IE.fn .i64 2 (AL.lst (LE.rom 0) (AL.int .i64 (IE.var .i64 1) AL.nil))) (IE.sub (IE.len (LE.rom 0)) (IE.add (IE.fn .i64 2 (AL.lst (LE.rom 0) (AL.int .i64 (IE.var .i64 1) AL.nil))) (IE.lit 1)))) (IE.fn .i64 2 (AL.lst (LE.rom 0) (AL.int .i64 (IE.var .i64 1) AL.nil))))) :: pcrdropOk_4) (some [(G.i (IE.len (LE.fn 8 (AL.lst (LE.rom 0) (AL.int .i64 (IE.var .i64 1) AL.nil)))) (IE.add (IE.fn .i64 2 (AL.lst (LE.rom 0) (AL.int .i64 (IE.var .i64 1) AL.nil))) (IE.sub (IE.len (LE.rom 0)) (IE.add (IE.fn .i64 2 (AL.lst (LE.rom 0) (AL.int .i64 (IE.var .i64 1) AL.nil))) (IE.lit 1))))), (G.l (LE.fn 8 (AL.lst (LE.rom 0) (AL.int .i64 (IE.var .i64 1) AL.nil))) (LE.cat (LE.take (LE.rom 0) (IE.fn .i64 2 (AL.lst (LE.rom 0) (AL.int .i64 (IE.var .i64 1) AL.nil)))) (LE.take (LE.rom 0) (IE.sub (IE.len (LE.rom 0)) (IE.add (IE.fn .i64 2 (AL.lst (LE.rom 0) (AL.int .i64 (IE.var .i64 1) AL.nil))) (IE.lit 1)))))), (G.i (IE.len (LE.fn 8 (AL.lst (LE.rom 0) (AL.int .i64 (IE.var .i64 1) AL.nil)))) (IE.add (IE.fn .i64 2 (AL.lst (LE.rom 0) (AL.int .i64 (IE.var .i64 1) AL.nil))) (IE.sub (IE.len (LE.rom 0)) (IE.add (IE.fn .i64 2 (AL.lst (LE.rom 0) (AL.int .i64 (IE.var .i64 1) AL.nil))) (IE.lit 1)))))]))
def wrdropOk_4 : VW := (VW.done ((BE.le (IE.add (IE.fn .i64 2 (AL.lst (LE.rom 0) (AL.int .i64 (IE.var .i64 1) AL.nil))) (IE.sub (IE.len (LE.rom 0)) (IE.add (IE.fn .i64 2 (AL.lst (LE.rom 0) (AL.int .i64 (IE.var .i64 1) AL.nil))) (IE.lit 1)))) (IE.fn .i64 2 (AL.lst (LE.rom 0) (AL.int .i64 (IE.var .i64 1) AL.nil)))) :: pcrdropOk_5) (some [(G.i (IE.len (LE.fn 8 (AL.lst (LE.rom 0) (AL.int .i64 (IE.var .i64 1) AL.nil)))) (IE.add (IE.fn .i64 2 (AL.lst (LE.rom 0) (AL.int .i64 (IE.var .i64 1) AL.nil))) (IE.sub (IE.len (LE.rom 0)) (IE.add (IE.fn .i64 2 (AL.lst (LE.rom 0) (AL.int .i64 (IE.var .i64 1) AL.nil))) (IE.lit 1))))), (G.l (LE.fn 8 (AL.lst (LE.rom 0) (AL.int .i64 (IE.var .i64 1) AL.nil))) (LE.cat (LE.cat (LE.take (LE.rom 0) (IE.fn .i64 2 (AL.lst (LE.rom 0) (AL.int .i64 (IE.var .i64 1) AL.nil)))) (LE.drop (LE.rom 0) (IE.add (IE.fn .i64 2 (AL.lst (LE.rom 0) (AL.int .i64 (IE.var .i64 1) AL.nil))) (IE.lit 1)))) (LE.drop (LE.take (LE.rom 0) (IE.fn .i64 2 (AL.lst (LE.rom 0) (AL.int .i64 (IE.var .i64 1) AL.nil)))) (IE.add (IE.fn .i64 2 (AL.lst (LE.rom 0) (AL.int .i64 (IE.var .i64 1) AL.nil))) (IE.sub (IE.len (LE.rom 0)) (IE.add (IE.fn .i64 2 (AL.lst (LE.rom 0) (AL.int .i64 (IE.var .i64 1) AL.nil))) (IE.lit 1))))))), (G.i (IE.len (LE.fn 8 (AL.lst (LE.rom 0) (AL.int .i64 (IE.var .i64 1) AL.nil)))) (IE.fn .i64 2 (AL.lst (LE.rom 0) (AL.int .i64 (IE.var .i64 1) AL.nil))))]))
def wrdropOk_5 : VW := (VW.done ((BE.not (BE.le (IE.add (IE.fn .i64 2 (AL.lst (LE.rom 0) (AL.int .i64 (IE.var .i64 1) AL.nil))) (IE.sub (IE.len (LE.rom 0)) (IE.add (IE.fn .i64 2 (AL.lst (LE.rom 0) (AL.int .i64 (IE.var .i64 1) AL.nil))) (IE.lit 1)))) (IE.fn .i64 2 (AL.lst (LE.rom 0) (AL.int .i64 (IE.var .i64 1) AL.nil))))) :: pcrdropOk_5) (some [(G.i (IE.len (LE.fn 8 (AL.lst (LE.rom 0) (AL.int .i64 (IE.var .i64 1) AL.nil)))) (IE.add (IE.fn .i64 2 (AL.lst (LE.rom 0) (AL.int .i64 (IE.var .i64 1) AL.nil))) (IE.sub (IE.len (LE.rom 0)) (IE.add (IE.fn .i64 2 (AL.lst (LE.rom 0) (AL.int .i64 (IE.var .i64 1) AL.nil))) (IE.lit 1))))), (G.l (LE.fn 8 (AL.lst (LE.rom 0) (AL.int .i64 (IE.var .i64 1) AL.nil))) (LE.cat (LE.take (LE.rom 0) (IE.fn .i64 2 (AL.lst (LE.rom 0) (AL.int .i64 (IE.var .i64 1) AL.nil)))) (LE.drop (LE.rom 0) (IE.add (IE.fn .i64 2 (AL.lst (LE.rom 0) (AL.int .i64 (IE.var .i64 1) AL.nil))) (IE.lit 1))))), (G.i (IE.len (LE.fn 8 (AL.lst (LE.rom 0) (AL.int .i64 (IE.var .i64 1) AL.nil)))) (IE.add (IE.fn .i64 2 (AL.lst (LE.rom 0) (AL.int .i64 (IE.var .i64 1) AL.nil))) (IE.sub (IE.len (LE.rom 0)) (IE.add (IE.fn .i64 2 (AL.lst (LE.rom 0) (AL.int .i64 (IE.var .i64 1) AL.nil))) (IE.lit 1)))))]))
def wrdropOk_6 : VW := (VW.done ((BE.not (BE.fn 4 (AL.lst (LE.rom 0) AL.nil))) :: pcrdropOk_0) (some [(G.b (BE.lit true) (BE.lit false))]))
def vwrdropOk : List VW := [wrdropOk_0, wrdropOk_1, wrdropOk_2, wrdropOk_3, wrdropOk_4, wrdropOk_5, wrdropOk_6]
end
theorem vcrdropOk_0 : VD TTrdropOk (st0 cRDropOk) wrdropOk_0 := by
  intro ρ kn hp
  have hF : ρ.z.F = wt.Φ := kn.F
  simp only [h_nil, h_cons, d_le, d_eq, d_not, d_var, d_lit, d_cel, d_leq, d_fn, d_and, d_iff, IE.den, LE.den, AL.den, lenV, true_and, and_true, pcrdropOk_1, pcrdropOk_0, hF, pi2, pi5, pi6, pi7, pb1, pb2, pb4, pl4, pl6, pl8] at hp
  obtain ⟨p1, p2, p3, p4, p5⟩ := hp
  exfalso
  all_goals
    have b2 : findN (ρ.z.rl 0) (ρ.i .i64 1) (ρ.z.rl 0).length ≤ (ρ.z.rl 0).length := first_le _ _
    have hcap := kn.cap 0 _ _ rfl
    simp only [find_in (l := ρ.z.rl 0) (s := ρ.i .i64 1) (by omega), dropE_in] at *
    first
      | (have q := drop2 (s := ρ.i .i64 1) (by assumption : ¬ queueL (ρ.z.rl 0) = true); omega)
      | (have q := drop5 (l := ρ.z.rl 0) (s := ρ.i .i64 1) (by assumption) (by omega); omega)
      | (have q := drop0 (l := ρ.z.rl 0) (s := ρ.i .i64 1) (by assumption) (by omega)
         have hf : findN (ρ.z.rl 0) (ρ.i .i64 1) (ρ.z.rl 0).length < (ρ.z.rl 0).length := by omega
         have hl := cut_len hf
         first
           | omega
           | (rw [q.2, hl]; omega)
           | (rw [q.2]
              clear hl q
              generalize findN (ρ.z.rl 0) (ρ.i .i64 1) (ρ.z.rl 0).length = f at *
              have t1 : ((f : Int) + 1).toNat = f + 1 := by omega
              rw [cutL]
              simp only [Int.toNat_natCast, t1]
              first
                | done
                | rfl
                | (rw [show f = 0 by omega]; rfl)
                | (have d : List.drop (f + 1) (ρ.z.rl 0) = [] := List.drop_eq_nil_of_le (by omega)
                   have d2 : ∀ n : Nat, f ≤ n → List.drop n (List.take f (ρ.z.rl 0)) = [] := fun n h => List.drop_eq_nil_of_le (by rw [List.length_take]; omega)
                   rw [d, List.append_nil]
                   try rw [show ((((ρ.z.rl 0).length : Nat) : Int) - ((f : Int) + 1)).toNat = 0 by omega, List.take_zero]
                   try rw [d]
                   try rw [d2 _ (by omega)]
                   simp only [List.append_nil])))
theorem vcrdropOk_1 : VD TTrdropOk (st0 cRDropOk) wrdropOk_1 := by
  intro ρ kn hp
  have hF : ρ.z.F = wt.Φ := kn.F
  simp only [h_nil, h_cons, d_le, d_eq, d_not, d_var, d_lit, d_cel, d_leq, d_fn, d_and, d_iff, IE.den, LE.den, AL.den, lenV, true_and, and_true, pcrdropOk_2, pcrdropOk_1, pcrdropOk_0, hF, pi2, pi5, pi6, pi7, pb1, pb2, pb4, pl4, pl6, pl8] at hp
  obtain ⟨p1, p2, p3, p4, p5, p6, p7, p8⟩ := hp
  refine all_cons (show (((ρ.z.F.l 8 [.lst (ρ.z.rl 0), .int .i64 (ρ.i .i64 1)]).length : Nat) : Int) = ((((ρ.z.rl 0).length : Nat) : Int) - ((clampK .i64 (ρ.z.F.i 2 [.lst (ρ.z.rl 0), .int .i64 (ρ.i .i64 1)])) + (1 : Int))) from ?_) (all_cons (show (ρ.z.F.l 8 [.lst (ρ.z.rl 0), .int .i64 (ρ.i .i64 1)]) = ((ρ.z.rl 0).drop ((clampK .i64 (ρ.z.F.i 2 [.lst (ρ.z.rl 0), .int .i64 (ρ.i .i64 1)])) + (1 : Int)).toNat) from ?_) (all_cons (show (((ρ.z.F.l 8 [.lst (ρ.z.rl 0), .int .i64 (ρ.i .i64 1)]).length : Nat) : Int) = ((((ρ.z.rl 0).length : Nat) : Int) - ((clampK .i64 (ρ.z.F.i 2 [.lst (ρ.z.rl 0), .int .i64 (ρ.i .i64 1)])) + (1 : Int))) from ?_) (all_nil)))
  all_goals try simp only [hF, pi2, pi5, pi6, pi7, pb1, pb2, pb4, pl4, pl6, pl8]
  all_goals
    have b2 : findN (ρ.z.rl 0) (ρ.i .i64 1) (ρ.z.rl 0).length ≤ (ρ.z.rl 0).length := first_le _ _
    have hcap := kn.cap 0 _ _ rfl
    simp only [find_in (l := ρ.z.rl 0) (s := ρ.i .i64 1) (by omega), dropE_in] at *
    first
      | (have q := drop2 (s := ρ.i .i64 1) (by assumption : ¬ queueL (ρ.z.rl 0) = true); omega)
      | (have q := drop5 (l := ρ.z.rl 0) (s := ρ.i .i64 1) (by assumption) (by omega); omega)
      | (have q := drop0 (l := ρ.z.rl 0) (s := ρ.i .i64 1) (by assumption) (by omega)
         have hf : findN (ρ.z.rl 0) (ρ.i .i64 1) (ρ.z.rl 0).length < (ρ.z.rl 0).length := by omega
         have hl := cut_len hf
         first
           | omega
           | (rw [q.2, hl]; omega)
           | (rw [q.2]
              clear hl q
              generalize findN (ρ.z.rl 0) (ρ.i .i64 1) (ρ.z.rl 0).length = f at *
              have t1 : ((f : Int) + 1).toNat = f + 1 := by omega
              rw [cutL]
              simp only [Int.toNat_natCast, t1]
              first
                | done
                | rfl
                | (rw [show f = 0 by omega]; rfl)
                | (have d : List.drop (f + 1) (ρ.z.rl 0) = [] := List.drop_eq_nil_of_le (by omega)
                   have d2 : ∀ n : Nat, f ≤ n → List.drop n (List.take f (ρ.z.rl 0)) = [] := fun n h => List.drop_eq_nil_of_le (by rw [List.length_take]; omega)
                   rw [d, List.append_nil]
                   try rw [show ((((ρ.z.rl 0).length : Nat) : Int) - ((f : Int) + 1)).toNat = 0 by omega, List.take_zero]
                   try rw [d]
                   try rw [d2 _ (by omega)]
                   simp only [List.append_nil])))
theorem vcrdropOk_2 : VD TTrdropOk (st0 cRDropOk) wrdropOk_2 := by
  intro ρ kn hp
  have hF : ρ.z.F = wt.Φ := kn.F
  simp only [h_nil, h_cons, d_le, d_eq, d_not, d_var, d_lit, d_cel, d_leq, d_fn, d_and, d_iff, IE.den, LE.den, AL.den, lenV, true_and, and_true, pcrdropOk_4, pcrdropOk_3, pcrdropOk_2, pcrdropOk_1, pcrdropOk_0, hF, pi2, pi5, pi6, pi7, pb1, pb2, pb4, pl4, pl6, pl8] at hp
  obtain ⟨p1, p2, p3, p4, p5, p6, p7, p8, p9, p10⟩ := hp
  refine all_cons (show (((ρ.z.F.l 8 [.lst (ρ.z.rl 0), .int .i64 (ρ.i .i64 1)]).length : Nat) : Int) = ((clampK .i64 (ρ.z.F.i 2 [.lst (ρ.z.rl 0), .int .i64 (ρ.i .i64 1)])) + ((((ρ.z.rl 0).length : Nat) : Int) - ((clampK .i64 (ρ.z.F.i 2 [.lst (ρ.z.rl 0), .int .i64 (ρ.i .i64 1)])) + (1 : Int)))) from ?_) (all_cons (show (ρ.z.F.l 8 [.lst (ρ.z.rl 0), .int .i64 (ρ.i .i64 1)]) = ((((ρ.z.rl 0).take (clampK .i64 (ρ.z.F.i 2 [.lst (ρ.z.rl 0), .int .i64 (ρ.i .i64 1)])).toNat) ++ ((ρ.z.rl 0).take ((((ρ.z.rl 0).length : Nat) : Int) - ((clampK .i64 (ρ.z.F.i 2 [.lst (ρ.z.rl 0), .int .i64 (ρ.i .i64 1)])) + (1 : Int))).toNat)) ++ (((ρ.z.rl 0).take (clampK .i64 (ρ.z.F.i 2 [.lst (ρ.z.rl 0), .int .i64 (ρ.i .i64 1)])).toNat).drop ((clampK .i64 (ρ.z.F.i 2 [.lst (ρ.z.rl 0), .int .i64 (ρ.i .i64 1)])) + ((((ρ.z.rl 0).length : Nat) : Int) - ((clampK .i64 (ρ.z.F.i 2 [.lst (ρ.z.rl 0), .int .i64 (ρ.i .i64 1)])) + (1 : Int)))).toNat)) from ?_) (all_cons (show (((ρ.z.F.l 8 [.lst (ρ.z.rl 0), .int .i64 (ρ.i .i64 1)]).length : Nat) : Int) = (clampK .i64 (ρ.z.F.i 2 [.lst (ρ.z.rl 0), .int .i64 (ρ.i .i64 1)])) from ?_) (all_nil)))
  all_goals try simp only [hF, pi2, pi5, pi6, pi7, pb1, pb2, pb4, pl4, pl6, pl8]
  all_goals
    have b2 : findN (ρ.z.rl 0) (ρ.i .i64 1) (ρ.z.rl 0).length ≤ (ρ.z.rl 0).length := first_le _ _
    have hcap := kn.cap 0 _ _ rfl
    simp only [find_in (l := ρ.z.rl 0) (s := ρ.i .i64 1) (by omega), dropE_in] at *
    first
      | (have q := drop2 (s := ρ.i .i64 1) (by assumption : ¬ queueL (ρ.z.rl 0) = true); omega)
      | (have q := drop5 (l := ρ.z.rl 0) (s := ρ.i .i64 1) (by assumption) (by omega); omega)
      | (have q := drop0 (l := ρ.z.rl 0) (s := ρ.i .i64 1) (by assumption) (by omega)
         have hf : findN (ρ.z.rl 0) (ρ.i .i64 1) (ρ.z.rl 0).length < (ρ.z.rl 0).length := by omega
         have hl := cut_len hf
         first
           | omega
           | (rw [q.2, hl]; omega)
           | (rw [q.2]
              clear hl q
              generalize findN (ρ.z.rl 0) (ρ.i .i64 1) (ρ.z.rl 0).length = f at *
              have t1 : ((f : Int) + 1).toNat = f + 1 := by omega
              rw [cutL]
              simp only [Int.toNat_natCast, t1]
              first
                | done
                | rfl
                | (rw [show f = 0 by omega]; rfl)
                | (have d : List.drop (f + 1) (ρ.z.rl 0) = [] := List.drop_eq_nil_of_le (by omega)
                   have d2 : ∀ n : Nat, f ≤ n → List.drop n (List.take f (ρ.z.rl 0)) = [] := fun n h => List.drop_eq_nil_of_le (by rw [List.length_take]; omega)
                   rw [d, List.append_nil]
                   try rw [show ((((ρ.z.rl 0).length : Nat) : Int) - ((f : Int) + 1)).toNat = 0 by omega, List.take_zero]
                   try rw [d]
                   try rw [d2 _ (by omega)]
                   simp only [List.append_nil])))
theorem vcrdropOk_3 : VD TTrdropOk (st0 cRDropOk) wrdropOk_3 := by
  intro ρ kn hp
  have hF : ρ.z.F = wt.Φ := kn.F
  simp only [h_nil, h_cons, d_le, d_eq, d_not, d_var, d_lit, d_cel, d_leq, d_fn, d_and, d_iff, IE.den, LE.den, AL.den, lenV, true_and, and_true, pcrdropOk_4, pcrdropOk_3, pcrdropOk_2, pcrdropOk_1, pcrdropOk_0, hF, pi2, pi5, pi6, pi7, pb1, pb2, pb4, pl4, pl6, pl8] at hp
  obtain ⟨p1, p2, p3, p4, p5, p6, p7, p8, p9, p10⟩ := hp
  refine all_cons (show (((ρ.z.F.l 8 [.lst (ρ.z.rl 0), .int .i64 (ρ.i .i64 1)]).length : Nat) : Int) = ((clampK .i64 (ρ.z.F.i 2 [.lst (ρ.z.rl 0), .int .i64 (ρ.i .i64 1)])) + ((((ρ.z.rl 0).length : Nat) : Int) - ((clampK .i64 (ρ.z.F.i 2 [.lst (ρ.z.rl 0), .int .i64 (ρ.i .i64 1)])) + (1 : Int)))) from ?_) (all_cons (show (ρ.z.F.l 8 [.lst (ρ.z.rl 0), .int .i64 (ρ.i .i64 1)]) = (((ρ.z.rl 0).take (clampK .i64 (ρ.z.F.i 2 [.lst (ρ.z.rl 0), .int .i64 (ρ.i .i64 1)])).toNat) ++ ((ρ.z.rl 0).take ((((ρ.z.rl 0).length : Nat) : Int) - ((clampK .i64 (ρ.z.F.i 2 [.lst (ρ.z.rl 0), .int .i64 (ρ.i .i64 1)])) + (1 : Int))).toNat)) from ?_) (all_cons (show (((ρ.z.F.l 8 [.lst (ρ.z.rl 0), .int .i64 (ρ.i .i64 1)]).length : Nat) : Int) = ((clampK .i64 (ρ.z.F.i 2 [.lst (ρ.z.rl 0), .int .i64 (ρ.i .i64 1)])) + ((((ρ.z.rl 0).length : Nat) : Int) - ((clampK .i64 (ρ.z.F.i 2 [.lst (ρ.z.rl 0), .int .i64 (ρ.i .i64 1)])) + (1 : Int)))) from ?_) (all_nil)))
  all_goals try simp only [hF, pi2, pi5, pi6, pi7, pb1, pb2, pb4, pl4, pl6, pl8]
  all_goals
    have b2 : findN (ρ.z.rl 0) (ρ.i .i64 1) (ρ.z.rl 0).length ≤ (ρ.z.rl 0).length := first_le _ _
    have hcap := kn.cap 0 _ _ rfl
    simp only [find_in (l := ρ.z.rl 0) (s := ρ.i .i64 1) (by omega), dropE_in] at *
    first
      | (have q := drop2 (s := ρ.i .i64 1) (by assumption : ¬ queueL (ρ.z.rl 0) = true); omega)
      | (have q := drop5 (l := ρ.z.rl 0) (s := ρ.i .i64 1) (by assumption) (by omega); omega)
      | (have q := drop0 (l := ρ.z.rl 0) (s := ρ.i .i64 1) (by assumption) (by omega)
         have hf : findN (ρ.z.rl 0) (ρ.i .i64 1) (ρ.z.rl 0).length < (ρ.z.rl 0).length := by omega
         have hl := cut_len hf
         first
           | omega
           | (rw [q.2, hl]; omega)
           | (rw [q.2]
              clear hl q
              generalize findN (ρ.z.rl 0) (ρ.i .i64 1) (ρ.z.rl 0).length = f at *
              have t1 : ((f : Int) + 1).toNat = f + 1 := by omega
              rw [cutL]
              simp only [Int.toNat_natCast, t1]
              first
                | done
                | rfl
                | (rw [show f = 0 by omega]; rfl)
                | (have d : List.drop (f + 1) (ρ.z.rl 0) = [] := List.drop_eq_nil_of_le (by omega)
                   have d2 : ∀ n : Nat, f ≤ n → List.drop n (List.take f (ρ.z.rl 0)) = [] := fun n h => List.drop_eq_nil_of_le (by rw [List.length_take]; omega)
                   rw [d, List.append_nil]
                   try rw [show ((((ρ.z.rl 0).length : Nat) : Int) - ((f : Int) + 1)).toNat = 0 by omega, List.take_zero]
                   try rw [d]
                   try rw [d2 _ (by omega)]
                   simp only [List.append_nil])))
theorem vcrdropOk_4 : VD TTrdropOk (st0 cRDropOk) wrdropOk_4 := by
  intro ρ kn hp
  have hF : ρ.z.F = wt.Φ := kn.F
  simp only [h_nil, h_cons, d_le, d_eq, d_not, d_var, d_lit, d_cel, d_leq, d_fn, d_and, d_iff, IE.den, LE.den, AL.den, lenV, true_and, and_true, pcrdropOk_5, pcrdropOk_3, pcrdropOk_2, pcrdropOk_1, pcrdropOk_0, hF, pi2, pi5, pi6, pi7, pb1, pb2, pb4, pl4, pl6, pl8] at hp
  obtain ⟨p1, p2, p3, p4, p5, p6, p7, p8, p9, p10⟩ := hp
  refine all_cons (show (((ρ.z.F.l 8 [.lst (ρ.z.rl 0), .int .i64 (ρ.i .i64 1)]).length : Nat) : Int) = ((clampK .i64 (ρ.z.F.i 2 [.lst (ρ.z.rl 0), .int .i64 (ρ.i .i64 1)])) + ((((ρ.z.rl 0).length : Nat) : Int) - ((clampK .i64 (ρ.z.F.i 2 [.lst (ρ.z.rl 0), .int .i64 (ρ.i .i64 1)])) + (1 : Int)))) from ?_) (all_cons (show (ρ.z.F.l 8 [.lst (ρ.z.rl 0), .int .i64 (ρ.i .i64 1)]) = ((((ρ.z.rl 0).take (clampK .i64 (ρ.z.F.i 2 [.lst (ρ.z.rl 0), .int .i64 (ρ.i .i64 1)])).toNat) ++ ((ρ.z.rl 0).drop ((clampK .i64 (ρ.z.F.i 2 [.lst (ρ.z.rl 0), .int .i64 (ρ.i .i64 1)])) + (1 : Int)).toNat)) ++ (((ρ.z.rl 0).take (clampK .i64 (ρ.z.F.i 2 [.lst (ρ.z.rl 0), .int .i64 (ρ.i .i64 1)])).toNat).drop ((clampK .i64 (ρ.z.F.i 2 [.lst (ρ.z.rl 0), .int .i64 (ρ.i .i64 1)])) + ((((ρ.z.rl 0).length : Nat) : Int) - ((clampK .i64 (ρ.z.F.i 2 [.lst (ρ.z.rl 0), .int .i64 (ρ.i .i64 1)])) + (1 : Int)))).toNat)) from ?_) (all_cons (show (((ρ.z.F.l 8 [.lst (ρ.z.rl 0), .int .i64 (ρ.i .i64 1)]).length : Nat) : Int) = (clampK .i64 (ρ.z.F.i 2 [.lst (ρ.z.rl 0), .int .i64 (ρ.i .i64 1)])) from ?_) (all_nil)))
  all_goals try simp only [hF, pi2, pi5, pi6, pi7, pb1, pb2, pb4, pl4, pl6, pl8]
  all_goals
    have b2 : findN (ρ.z.rl 0) (ρ.i .i64 1) (ρ.z.rl 0).length ≤ (ρ.z.rl 0).length := first_le _ _
    have hcap := kn.cap 0 _ _ rfl
    simp only [find_in (l := ρ.z.rl 0) (s := ρ.i .i64 1) (by omega), dropE_in] at *
    first
      | (have q := drop2 (s := ρ.i .i64 1) (by assumption : ¬ queueL (ρ.z.rl 0) = true); omega)
      | (have q := drop5 (l := ρ.z.rl 0) (s := ρ.i .i64 1) (by assumption) (by omega); omega)
      | (have q := drop0 (l := ρ.z.rl 0) (s := ρ.i .i64 1) (by assumption) (by omega)
         have hf : findN (ρ.z.rl 0) (ρ.i .i64 1) (ρ.z.rl 0).length < (ρ.z.rl 0).length := by omega
         have hl := cut_len hf
         first
           | omega
           | (rw [q.2, hl]; omega)
           | (rw [q.2]
              clear hl q
              generalize findN (ρ.z.rl 0) (ρ.i .i64 1) (ρ.z.rl 0).length = f at *
              have t1 : ((f : Int) + 1).toNat = f + 1 := by omega
              rw [cutL]
              simp only [Int.toNat_natCast, t1]
              first
                | done
                | rfl
                | (rw [show f = 0 by omega]; rfl)
                | (have d : List.drop (f + 1) (ρ.z.rl 0) = [] := List.drop_eq_nil_of_le (by omega)
                   have d2 : ∀ n : Nat, f ≤ n → List.drop n (List.take f (ρ.z.rl 0)) = [] := fun n h => List.drop_eq_nil_of_le (by rw [List.length_take]; omega)
                   rw [d, List.append_nil]
                   try rw [show ((((ρ.z.rl 0).length : Nat) : Int) - ((f : Int) + 1)).toNat = 0 by omega, List.take_zero]
                   try rw [d]
                   try rw [d2 _ (by omega)]
                   simp only [List.append_nil])))
theorem vcrdropOk_5 : VD TTrdropOk (st0 cRDropOk) wrdropOk_5 := by
  intro ρ kn hp
  have hF : ρ.z.F = wt.Φ := kn.F
  simp only [h_nil, h_cons, d_le, d_eq, d_not, d_var, d_lit, d_cel, d_leq, d_fn, d_and, d_iff, IE.den, LE.den, AL.den, lenV, true_and, and_true, pcrdropOk_5, pcrdropOk_3, pcrdropOk_2, pcrdropOk_1, pcrdropOk_0, hF, pi2, pi5, pi6, pi7, pb1, pb2, pb4, pl4, pl6, pl8] at hp
  obtain ⟨p1, p2, p3, p4, p5, p6, p7, p8, p9, p10⟩ := hp
  refine all_cons (show (((ρ.z.F.l 8 [.lst (ρ.z.rl 0), .int .i64 (ρ.i .i64 1)]).length : Nat) : Int) = ((clampK .i64 (ρ.z.F.i 2 [.lst (ρ.z.rl 0), .int .i64 (ρ.i .i64 1)])) + ((((ρ.z.rl 0).length : Nat) : Int) - ((clampK .i64 (ρ.z.F.i 2 [.lst (ρ.z.rl 0), .int .i64 (ρ.i .i64 1)])) + (1 : Int)))) from ?_) (all_cons (show (ρ.z.F.l 8 [.lst (ρ.z.rl 0), .int .i64 (ρ.i .i64 1)]) = (((ρ.z.rl 0).take (clampK .i64 (ρ.z.F.i 2 [.lst (ρ.z.rl 0), .int .i64 (ρ.i .i64 1)])).toNat) ++ ((ρ.z.rl 0).drop ((clampK .i64 (ρ.z.F.i 2 [.lst (ρ.z.rl 0), .int .i64 (ρ.i .i64 1)])) + (1 : Int)).toNat)) from ?_) (all_cons (show (((ρ.z.F.l 8 [.lst (ρ.z.rl 0), .int .i64 (ρ.i .i64 1)]).length : Nat) : Int) = ((clampK .i64 (ρ.z.F.i 2 [.lst (ρ.z.rl 0), .int .i64 (ρ.i .i64 1)])) + ((((ρ.z.rl 0).length : Nat) : Int) - ((clampK .i64 (ρ.z.F.i 2 [.lst (ρ.z.rl 0), .int .i64 (ρ.i .i64 1)])) + (1 : Int)))) from ?_) (all_nil)))
  all_goals try simp only [hF, pi2, pi5, pi6, pi7, pb1, pb2, pb4, pl4, pl6, pl8]
  all_goals
    have b2 : findN (ρ.z.rl 0) (ρ.i .i64 1) (ρ.z.rl 0).length ≤ (ρ.z.rl 0).length := first_le _ _
    have hcap := kn.cap 0 _ _ rfl
    simp only [find_in (l := ρ.z.rl 0) (s := ρ.i .i64 1) (by omega), dropE_in] at *
    first
      | (have q := drop2 (s := ρ.i .i64 1) (by assumption : ¬ queueL (ρ.z.rl 0) = true); omega)
      | (have q := drop5 (l := ρ.z.rl 0) (s := ρ.i .i64 1) (by assumption) (by omega); omega)
      | (have q := drop0 (l := ρ.z.rl 0) (s := ρ.i .i64 1) (by assumption) (by omega)
         have hf : findN (ρ.z.rl 0) (ρ.i .i64 1) (ρ.z.rl 0).length < (ρ.z.rl 0).length := by omega
         have hl := cut_len hf
         first
           | omega
           | (rw [q.2, hl]; omega)
           | (rw [q.2]
              clear hl q
              generalize findN (ρ.z.rl 0) (ρ.i .i64 1) (ρ.z.rl 0).length = f at *
              have t1 : ((f : Int) + 1).toNat = f + 1 := by omega
              rw [cutL]
              simp only [Int.toNat_natCast, t1]
              first
                | done
                | rfl
                | (rw [show f = 0 by omega]; rfl)
                | (have d : List.drop (f + 1) (ρ.z.rl 0) = [] := List.drop_eq_nil_of_le (by omega)
                   have d2 : ∀ n : Nat, f ≤ n → List.drop n (List.take f (ρ.z.rl 0)) = [] := fun n h => List.drop_eq_nil_of_le (by rw [List.length_take]; omega)
                   rw [d, List.append_nil]
                   try rw [show ((((ρ.z.rl 0).length : Nat) : Int) - ((f : Int) + 1)).toNat = 0 by omega, List.take_zero]
                   try rw [d]
                   try rw [d2 _ (by omega)]
                   simp only [List.append_nil])))
theorem vcrdropOk_6 : VD TTrdropOk (st0 cRDropOk) wrdropOk_6 := by
  intro ρ kn hp
  have hF : ρ.z.F = wt.Φ := kn.F
  simp only [h_nil, h_cons, d_le, d_eq, d_not, d_var, d_lit, d_cel, d_leq, d_fn, d_and, d_iff, IE.den, LE.den, AL.den, lenV, true_and, and_true, pcrdropOk_0, hF, pi2, pi5, pi6, pi7, pb1, pb2, pb4, pl4, pl6, pl8] at hp
  obtain ⟨p1, p2, p3, p4⟩ := hp
  exfalso
  all_goals
    have b2 : findN (ρ.z.rl 0) (ρ.i .i64 1) (ρ.z.rl 0).length ≤ (ρ.z.rl 0).length := first_le _ _
    have hcap := kn.cap 0 _ _ rfl
    simp only [find_in (l := ρ.z.rl 0) (s := ρ.i .i64 1) (by omega), dropE_in] at *
    first
      | (have q := drop2 (s := ρ.i .i64 1) (by assumption : ¬ queueL (ρ.z.rl 0) = true); omega)
      | (have q := drop5 (l := ρ.z.rl 0) (s := ρ.i .i64 1) (by assumption) (by omega); omega)
      | (have q := drop0 (l := ρ.z.rl 0) (s := ρ.i .i64 1) (by assumption) (by omega)
         have hf : findN (ρ.z.rl 0) (ρ.i .i64 1) (ρ.z.rl 0).length < (ρ.z.rl 0).length := by omega
         have hl := cut_len hf
         first
           | omega
           | (rw [q.2, hl]; omega)
           | (rw [q.2]
              clear hl q
              generalize findN (ρ.z.rl 0) (ρ.i .i64 1) (ρ.z.rl 0).length = f at *
              have t1 : ((f : Int) + 1).toNat = f + 1 := by omega
              rw [cutL]
              simp only [Int.toNat_natCast, t1]
              first
                | done
                | rfl
                | (rw [show f = 0 by omega]; rfl)
                | (have d : List.drop (f + 1) (ρ.z.rl 0) = [] := List.drop_eq_nil_of_le (by omega)
                   have d2 : ∀ n : Nat, f ≤ n → List.drop n (List.take f (ρ.z.rl 0)) = [] := fun n h => List.drop_eq_nil_of_le (by rw [List.length_take]; omega)
                   rw [d, List.append_nil]
                   try rw [show ((((ρ.z.rl 0).length : Nat) : Int) - ((f : Int) + 1)).toNat = 0 by omega, List.take_zero]
                   try rw [d]
                   try rw [d2 _ (by omega)]
                   simp only [List.append_nil])))
theorem told_rdropOk : Sx.Told wt.Φ cRDropOk := told_vw (cs := [cQueueP, cQueueR, cMayP, cMayR, cRFin, cRFout, cFindIn, cFindOut, cFindNo]) (all_cons told_queueP (all_cons told_queueR (all_cons told_mayP (all_cons told_mayR (all_cons told_rfin (all_cons told_rfout (all_cons told_findIn (all_cons told_findOut (all_cons told_findNo (all_nil)))))))))) 9000 vwrdropOk (by kernel_rfl) (by kernel_rfl) (by kernel_rfl) post_rdropOk (by kernel_rfl) (by kernel_rfl) (all_cons vcrdropOk_0 (all_cons vcrdropOk_1 (all_cons vcrdropOk_2 (all_cons vcrdropOk_3 (all_cons vcrdropOk_4 (all_cons vcrdropOk_5 (all_cons vcrdropOk_6 (all_nil))))))))
noncomputable section
abbrev TTrdropNo : Tab := T wt.Φ cRDropNo.roms [cQueueP, cQueueR, cMayP, cMayR, cRFin, cRFout, cFindIn, cFindOut, cFindNo]
def pcrdropNo_0 : List BE := [(BE.lit true), (BE.le (IE.len (LE.rom 0)) (IE.lit 1000)), (BE.le (IE.lit 2) (IE.len (LE.rom 0))), (BE.not (BE.eq (IE.fn .i64 6 (AL.lst (LE.rom 0) (AL.int .i64 (IE.var .i64 1) AL.nil))) (IE.lit 0)))]
def pcrdropNo_1 : List BE := ((BE.fn 4 (AL.lst (LE.rom 0) AL.nil)) :: pcrdropNo_0)
def pcrdropNo_2 : List BE := ((BE.le (IE.lit 0) (IE.fn .i64 2 (AL.lst (LE.rom 0) (AL.int .i64 (IE.var .i64 1) AL.nil)))) :: (BE.le (IE.fn .i64 2 (AL.lst (LE.rom 0) (AL.int .i64 (IE.var .i64 1) AL.nil))) (IE.len (LE.rom 0))) :: (BE.not (BE.le (IE.len (LE.rom 0)) (IE.fn .i64 2 (AL.lst (LE.rom 0) (AL.int .i64 (IE.var .i64 1) AL.nil))))) :: pcrdropNo_1)
def pcrdropNo_3 : List BE := ((BE.not (BE.le (IE.fn .i64 2 (AL.lst (LE.rom 0) (AL.int .i64 (IE.var .i64 1) AL.nil))) (IE.lit 0))) :: pcrdropNo_2)
def pcrdropNo_4 : List BE := ((BE.eq (IE.rcap 0) (IE.add (IE.fn .i64 2 (AL.lst (LE.rom 0) (AL.int .i64 (IE.var .i64 1) AL.nil))) (IE.lit 1))) :: pcrdropNo_3)
def pcrdropNo_5 : List BE := ((BE.not (BE.eq (IE.rcap 0) (IE.add (IE.fn .i64 2 (AL.lst (LE.rom 0) (AL.int .i64 (IE.var .i64 1) AL.nil))) (IE.lit 1)))) :: pcrdropNo_3)
def wrdropNo_0 : VW := (VW.done ((BE.le (IE.len (LE.rom 0)) (IE.fn .i64 2 (AL.lst (LE.rom 0) (AL.int .i64 (IE.var .i64 1) AL.nil)))) :: pcrdropNo_1) (some [(G.i (IE.fn .i64 6 (AL.lst (LE.rom 0) (AL.int .i64 (IE.var .i64 1) AL.nil))) (IE.lit 5))]))
def wrdropNo_1 : VW := (VW.done ((BE.le (IE.fn .i64 2 (AL.lst (LE.rom 0) (AL.int .i64 (IE.var .i64 1) AL.nil))) (IE.lit 0)) :: pcrdropNo_2) (some [(G.b (BE.lit true) (BE.lit false))]))
def wrdropNo_2 : VW := (VW.done ((BE.le (IE.add (IE.fn .i64 2 (AL.lst (LE.rom 0) (AL.int .i64 (IE.var .i64 1) AL.nil))) (IE.sub (IE.len (LE.rom 0)) (IE.add (IE.fn .i64 2 (AL.lst (LE.rom 0) (AL.int .i64 (IE.var .i64 1) AL.nil))) (IE.lit 1)))) (IE.fn .i64 2 (AL.lst (LE.rom 0) (AL.int .i64 (IE.var .i64 1) AL.nil)))) :: pcrdropNo_4) (some [(G.b (BE.lit true) (BE.lit false))]))
def wrdropNo_3 : VW := (VW.done ((BE.not (BE.le (IE.add (IE.fn .i64 2 (AL.lst (LE.rom 0) (AL.int .i64 (IE.var .i64 1) AL.nil))) (IE.sub (IE.len (LE.rom 0)) (IE.add (IE.fn .i64 2 (AL.lst (LE.rom 0) (AL.int .i64 (IE.var .i64 1) AL.nil))) (IE.lit 1)))) (IE.fn .i64 2 (AL.lst (LE.rom 0) (AL.int .i64 (IE.var .i64 1) AL.nil))))) :: pcrdropNo_4) (some [(G.b (BE.lit true) (BE.lit false))]))
def wrdropNo_4 : VW := (VW.done ((BE.le (IE.add (IE.fn .i64 2 (AL.lst (LE.rom 0) (AL.int .i64 (IE.var .i64 1) AL.nil))) (IE.sub (IE.len (LE.rom 0)) (IE.add (IE.fn .i64 2 (AL.lst (LE.rom 0) (AL.int .i64 (IE.var .i64 1) AL.nil))) (IE.lit 1)))) (IE.fn .i64 2 (AL.lst (LE.rom 0) (AL.int .i64 (IE.var .i64 1) AL.nil)))) :: pcrdropNo_5) (some [(G.b (BE.lit true) (BE.lit false))]))
def wrdropNo_5 : VW := (VW.done ((BE.not (BE.le (IE.add (IE.fn .i64 2 (AL.lst (LE.rom 0) (AL.int .i64 (IE.var .i64 1) AL.nil))) (IE.sub (IE.len (LE.rom 0)) (IE.add (IE.fn .i64 2 (AL.lst (LE.rom 0) (AL.int .i64 (IE.var .i64 1) AL.nil))) (IE.lit 1)))) (IE.fn .i64 2 (AL.lst (LE.rom 0) (AL.int .i64 (IE.var .i64 1) AL.nil))))) :: pcrdropNo_5) (some [(G.b (BE.lit true) (BE.lit false))]))
def wrdropNo_6 : VW := (VW.done ((BE.not (BE.fn 4 (AL.lst (LE.rom 0) AL.nil))) :: pcrdropNo_0) (some [(G.i (IE.fn .i64 6 (AL.lst (LE.rom 0) (AL.int .i64 (IE.var .i64 1) AL.nil))) (IE.lit 2))]))
def vwrdropNo : List VW := [wrdropNo_0, wrdropNo_1, wrdropNo_2, wrdropNo_3, wrdropNo_4, wrdropNo_5, wrdropNo_6]
end
theorem vcrdropNo_0 : VD TTrdropNo (st0 cRDropNo) wrdropNo_0 := by
  intro ρ kn hp
  have hF : ρ.z.F = wt.Φ := kn.F
  simp only [h_nil, h_cons, d_le, d_eq, d_not, d_var, d_lit, d_cel, d_leq, d_fn, d_and, d_iff, IE.den, LE.den, AL.den, lenV, true_and, and_true, pcrdropNo_1, pcrdropNo_0, hF, pi2, pi5, pi6, pi7, pb1, pb2, pb4, pl4, pl6, pl8] at hp
  obtain ⟨p1, p2, p3, p4, p5⟩ := hp
  refine all_cons (show (clampK .i64 (ρ.z.F.i 6 [.lst (ρ.z.rl 0), .int .i64 (ρ.i .i64 1)])) = (5 : Int) from ?_) (all_nil)
  all_goals try simp only [hF, pi2, pi5, pi6, pi7, pb1, pb2, pb4, pl4, pl6, pl8]
  all_goals
    have b2 : findN (ρ.z.rl 0) (ρ.i .i64 1) (ρ.z.rl 0).length ≤ (ρ.z.rl 0).length := first_le _ _
    have hcap := kn.cap 0 _ _ rfl
    simp only [find_in (l := ρ.z.rl 0) (s := ρ.i .i64 1) (by omega), dropE_in] at *
    first
      | (have q := drop2 (s := ρ.i .i64 1) (by assumption : ¬ queueL (ρ.z.rl 0) = true); omega)
      | (have q := drop5 (l := ρ.z.rl 0) (s := ρ.i .i64 1) (by assumption) (by omega); omega)
      | (have q := drop0 (l := ρ.z.rl 0) (s := ρ.i .i64 1) (by assumption) (by omega)
         have hf : findN (ρ.z.rl 0) (ρ.i .i64 1) (ρ.z.rl 0).length < (ρ.z.rl 0).length := by omega
         have hl := cut_len hf
         first
           | omega
           | (rw [q.2, hl]; omega)
           | (rw [q.2]
              clear hl q
              generalize findN (ρ.z.rl 0) (ρ.i .i64 1) (ρ.z.rl 0).length = f at *
              have t1 : ((f : Int) + 1).toNat = f + 1 := by omega
              rw [cutL]
              simp only [Int.toNat_natCast, t1]
              skip))
theorem vcrdropNo_1 : VD TTrdropNo (st0 cRDropNo) wrdropNo_1 := by
  intro ρ kn hp
  have hF : ρ.z.F = wt.Φ := kn.F
  simp only [h_nil, h_cons, d_le, d_eq, d_not, d_var, d_lit, d_cel, d_leq, d_fn, d_and, d_iff, IE.den, LE.den, AL.den, lenV, true_and, and_true, pcrdropNo_2, pcrdropNo_1, pcrdropNo_0, hF, pi2, pi5, pi6, pi7, pb1, pb2, pb4, pl4, pl6, pl8] at hp
  obtain ⟨p1, p2, p3, p4, p5, p6, p7, p8⟩ := hp
  exfalso
  all_goals
    have b2 : findN (ρ.z.rl 0) (ρ.i .i64 1) (ρ.z.rl 0).length ≤ (ρ.z.rl 0).length := first_le _ _
    have hcap := kn.cap 0 _ _ rfl
    simp only [find_in (l := ρ.z.rl 0) (s := ρ.i .i64 1) (by omega), dropE_in] at *
    first
      | (have q := drop2 (s := ρ.i .i64 1) (by assumption : ¬ queueL (ρ.z.rl 0) = true); omega)
      | (have q := drop5 (l := ρ.z.rl 0) (s := ρ.i .i64 1) (by assumption) (by omega); omega)
      | (have q := drop0 (l := ρ.z.rl 0) (s := ρ.i .i64 1) (by assumption) (by omega)
         have hf : findN (ρ.z.rl 0) (ρ.i .i64 1) (ρ.z.rl 0).length < (ρ.z.rl 0).length := by omega
         have hl := cut_len hf
         first
           | omega
           | (rw [q.2, hl]; omega)
           | (rw [q.2]
              clear hl q
              generalize findN (ρ.z.rl 0) (ρ.i .i64 1) (ρ.z.rl 0).length = f at *
              have t1 : ((f : Int) + 1).toNat = f + 1 := by omega
              rw [cutL]
              simp only [Int.toNat_natCast, t1]
              skip))
theorem vcrdropNo_2 : VD TTrdropNo (st0 cRDropNo) wrdropNo_2 := by
  intro ρ kn hp
  have hF : ρ.z.F = wt.Φ := kn.F
  simp only [h_nil, h_cons, d_le, d_eq, d_not, d_var, d_lit, d_cel, d_leq, d_fn, d_and, d_iff, IE.den, LE.den, AL.den, lenV, true_and, and_true, pcrdropNo_4, pcrdropNo_3, pcrdropNo_2, pcrdropNo_1, pcrdropNo_0, hF, pi2, pi5, pi6, pi7, pb1, pb2, pb4, pl4, pl6, pl8] at hp
  obtain ⟨p1, p2, p3, p4, p5, p6, p7, p8, p9, p10⟩ := hp
  exfalso
  all_goals
    have b2 : findN (ρ.z.rl 0) (ρ.i .i64 1) (ρ.z.rl 0).length ≤ (ρ.z.rl 0).length := first_le _ _
    have hcap := kn.cap 0 _ _ rfl
    simp only [find_in (l := ρ.z.rl 0) (s := ρ.i .i64 1) (by omega), dropE_in] at *
    first
      | (have q := drop2 (s := ρ.i .i64 1) (by assumption : ¬ queueL (ρ.z.rl 0) = true); omega)
      | (have q := drop5 (l := ρ.z.rl 0) (s := ρ.i .i64 1) (by assumption) (by omega); omega)
      | (have q := drop0 (l := ρ.z.rl 0) (s := ρ.i .i64 1) (by assumption) (by omega)
         have hf : findN (ρ.z.rl 0) (ρ.i .i64 1) (ρ.z.rl 0).length < (ρ.z.rl 0).length := by omega
         have hl := cut_len hf
         first
           | omega
           | (rw [q.2, hl]; omega)
           | (rw [q.2]
              clear hl q
              generalize findN (ρ.z.rl 0) (ρ.i .i64 1) (ρ.z.rl 0).length = f at *
              have t1 : ((f : Int) + 1).toNat = f + 1 := by omega
              rw [cutL]
              simp only [Int.toNat_natCast, t1]
              skip))
theorem vcrdropNo_3 : VD TTrdropNo (st0 cRDropNo) wrdropNo_3 := by
  intro ρ kn hp
  have hF : ρ.z.F = wt.Φ := kn.F
  simp only [h_nil, h_cons, d_le, d_eq, d_not, d_var, d_lit, d_cel, d_leq, d_fn, d_and, d_iff, IE.den, LE.den, AL.den, lenV, true_and, and_true, pcrdropNo_4, pcrdropNo_3, pcrdropNo_2, pcrdropNo_1, pcrdropNo_0, hF, pi2, pi5, pi6, pi7, pb1, pb2, pb4, pl4, pl6, pl8] at hp
  obtain ⟨p1, p2, p3, p4, p5, p6, p7, p8, p9, p10⟩ := hp
  exfalso
  all_goals
    have b2 : findN (ρ.z.rl 0) (ρ.i .i64 1) (ρ.z.rl 0).length ≤ (ρ.z.rl 0).length := first_le _ _
    have hcap := kn.cap 0 _ _ rfl
    simp only [find_in (l := ρ.z.rl 0) (s := ρ.i .i64 1) (by omega), dropE_in] at *
    first
      | (have q := drop2 (s := ρ.i .i64 1) (by assumption : ¬ queueL (ρ.z.rl 0) = true); omega)
      | (have q := drop5 (l := ρ.z.rl 0) (s := ρ.i .i64 1) (by assumption) (by omega); omega)
      | (have q := drop0 (l := ρ.z.rl 0) (s := ρ.i .i64 1) (by assumption) (by omega)
         have hf : findN (ρ.z.rl 0) (ρ.i .i64 1) (ρ.z.rl 0).length < (ρ.z.rl 0).length := by omega
         have hl := cut_len hf
         first
           | omega
           | (rw [q.2, hl]; omega)
           | (rw [q.2]
              clear hl q
              generalize findN (ρ.z.rl 0) (ρ.i .i64 1) (ρ.z.rl 0).length = f at *
              have t1 : ((f : Int) + 1).toNat = f + 1 := by omega
              rw [cutL]
              simp only [Int.toNat_natCast, t1]
              skip))
theorem vcrdropNo_4 : VD TTrdropNo (st0 cRDropNo) wrdropNo_4 := by
  intro ρ kn hp
  have hF : ρ.z.F = wt.Φ := kn.F
  simp only [h_nil, h_cons, d_le, d_eq, d_not, d_var, d_lit, d_cel, d_leq, d_fn, d_and, d_iff, IE.den, LE.den, AL.den, lenV, true_and, and_true, pcrdropNo_5, pcrdropNo_3, pcrdropNo_2, pcrdropNo_1, pcrdropNo_0, hF, pi2, pi5, pi6, pi7, pb1, pb2, pb4, pl4, pl6, pl8] at hp
  obtain ⟨p1, p2, p3, p4, p5, p6, p7, p8, p9, p10⟩ := hp
  exfalso
  all_goals
    have b2 : findN (ρ.z.rl 0) (ρ.i .i64 1) (ρ.z.rl 0).length ≤ (ρ.z.rl 0).length := first_le _ _
    have hcap := kn.cap 0 _ _ rfl
    simp only [find_in (l := ρ.z.rl 0) (s := ρ.i .i64 1) (by omega), dropE_in] at *
    first
      | (have q := drop2 (s := ρ.i .i64 1) (by assumption : ¬ queueL (ρ.z.rl 0) = true); omega)
      | (have q := drop5 (l := ρ.z.rl 0) (s := ρ.i .i64 1) (by assumption) (by omega); omega)
      | (have q := drop0 (l := ρ.z.rl 0) (s := ρ.i .i64 1) (by assumption) (by omega)
         have hf : findN (ρ.z.rl 0) (ρ.i .i64 1) (ρ.z.rl 0).length < (ρ.z.rl 0).length := by omega
         have hl := cut_len hf
         first
           | omega
           | (rw [q.2, hl]; omega)
           | (rw [q.2]
              clear hl q
              generalize findN (ρ.z.rl 0) (ρ.i .i64 1) (ρ.z.rl 0).length = f at *
              have t1 : ((f : Int) + 1).toNat = f + 1 := by omega
              rw [cutL]
              simp only [Int.toNat_natCast, t1]
              skip))
theorem vcrdropNo_5 : VD TTrdropNo (st0 cRDropNo) wrdropNo_5 := by
  intro ρ kn hp
  have hF : ρ.z.F = wt.Φ := kn.F
  simp only [h_nil, h_cons, d_le, d_eq, d_not, d_var, d_lit, d_cel, d_leq, d_fn, d_and, d_iff, IE.den, LE.den, AL.den, lenV, true_and, and_true, pcrdropNo_5, pcrdropNo_3, pcrdropNo_2, pcrdropNo_1, pcrdropNo_0, hF, pi2, pi5, pi6, pi7, pb1, pb2, pb4, pl4, pl6, pl8] at hp
  obtain ⟨p1, p2, p3, p4, p5, p6, p7, p8, p9, p10⟩ := hp
  exfalso
  all_goals
    have b2 : findN (ρ.z.rl 0) (ρ.i .i64 1) (ρ.z.rl 0).length ≤ (ρ.z.rl 0).length := first_le _ _
    have hcap := kn.cap 0 _ _ rfl
    simp only [find_in (l := ρ.z.rl 0) (s := ρ.i .i64 1) (by omega), dropE_in] at *
    first
      | (have q := drop2 (s := ρ.i .i64 1) (by assumption : ¬ queueL (ρ.z.rl 0) = true); omega)
      | (have q := drop5 (l := ρ.z.rl 0) (s := ρ.i .i64 1) (by assumption) (by omega); omega)
      | (have q := drop0 (l := ρ.z.rl 0) (s := ρ.i .i64 1) (by assumption) (by omega)
         have hf : findN (ρ.z.rl 0) (ρ.i .i64 1) (ρ.z.rl 0).length < (ρ.z.rl 0).length := by omega
         have hl := cut_len hf
         first
           | omega
           | (rw [q.2, hl]; omega)
           | (rw [q.2]
              clear hl q
              generalize findN (ρ.z.rl 0) (ρ.i .i64 1) (ρ.z.rl 0).length = f at *
              have t1 : ((f : Int) + 1).toNat = f + 1 := by omega
              rw [cutL]
              simp only [Int.toNat_natCast, t1]
              skip))
theorem vcrdropNo_6 : VD TTrdropNo (st0 cRDropNo) wrdropNo_6 := by
  intro ρ kn hp
  have hF : ρ.z.F = wt.Φ := kn.F
  simp only [h_nil, h_cons, d_le, d_eq, d_not, d_var, d_lit, d_cel, d_leq, d_fn, d_and, d_iff, IE.den, LE.den, AL.den, lenV, true_and, and_true, pcrdropNo_0, hF, pi2, pi5, pi6, pi7, pb1, pb2, pb4, pl4, pl6, pl8] at hp
  obtain ⟨p1, p2, p3, p4⟩ := hp
  refine all_cons (show (clampK .i64 (ρ.z.F.i 6 [.lst (ρ.z.rl 0), .int .i64 (ρ.i .i64 1)])) = (2 : Int) from ?_) (all_nil)
  all_goals try simp only [hF, pi2, pi5, pi6, pi7, pb1, pb2, pb4, pl4, pl6, pl8]
  all_goals
    have b2 : findN (ρ.z.rl 0) (ρ.i .i64 1) (ρ.z.rl 0).length ≤ (ρ.z.rl 0).length := first_le _ _
    have hcap := kn.cap 0 _ _ rfl
    simp only [find_in (l := ρ.z.rl 0) (s := ρ.i .i64 1) (by omega), dropE_in] at *
    first
      | (have q := drop2 (s := ρ.i .i64 1) (by assumption : ¬ queueL (ρ.z.rl 0) = true); omega)
      | (have q := drop5 (l := ρ.z.rl 0) (s := ρ.i .i64 1) (by assumption) (by omega); omega)
      | (have q := drop0 (l := ρ.z.rl 0) (s := ρ.i .i64 1) (by assumption) (by omega)
         have hf : findN (ρ.z.rl 0) (ρ.i .i64 1) (ρ.z.rl 0).length < (ρ.z.rl 0).length := by omega
         have hl := cut_len hf
         first
           | omega
           | (rw [q.2, hl]; omega)
           | (rw [q.2]
              clear hl q
              generalize findN (ρ.z.rl 0) (ρ.i .i64 1) (ρ.z.rl 0).length = f at *
              have t1 : ((f : Int) + 1).toNat = f + 1 := by omega
              rw [cutL]
              simp only [Int.toNat_natCast, t1]
              skip))
theorem told_rdropNo : Sx.Told wt.Φ cRDropNo := told_vw (cs := [cQueueP, cQueueR, cMayP, cMayR, cRFin, cRFout, cFindIn, cFindOut, cFindNo]) (all_cons told_queueP (all_cons told_queueR (all_cons told_mayP (all_cons told_mayR (all_cons told_rfin (all_cons told_rfout (all_cons told_findIn (all_cons told_findOut (all_cons told_findNo (all_nil)))))))))) 9000 vwrdropNo (by kernel_rfl) (by kernel_rfl) (by kernel_rfl) (post_nil rfl) (by kernel_rfl) (by kernel_rfl) (all_cons vcrdropNo_0 (all_cons vcrdropNo_1 (all_cons vcrdropNo_2 (all_cons vcrdropNo_3 (all_cons vcrdropNo_4 (all_cons vcrdropNo_5 (all_cons vcrdropNo_6 (all_nil))))))))
end Go.Proofs.YteblnjgghbclpaaDoor.wt
