/- Layer hold: the hold of a site, told. No condition. -/
import Derived.Test.YteblnjgghbclpaaDoorHp
set_option linter.unusedVariables false
set_option linter.unusedSimpArgs false
set_option linter.deprecated false
namespace Go.Proofs.YteblnjgghbclpaaDoor.hold
open Go Go.Proofs.YteblnjgghbclpaaDoor.Sx
noncomputable section
abbrev TTfindIn : Tab := T hold.Φ cFindIn.roms [cRightP]
def tfindIn1 : Cfg := { top := ⟨104, over (opqS 10000 18) [(0, (SV.func (Go.Fn.yield 6) [] [])), (5, (SV.rom 0 (IE.lit 0) (IE.len (LE.rom 0)) none)), (6, (SV.int .i64 (IE.len (LE.rom 0)))), (7, (SV.int .i64 (IE.var .i64 1000)))], ogt (loopTodo (bodyOf (T hold.Φ [] []) 104) 0), [], false, none⟩, rest := [⟨47, over (opqS 30000 28) [(4, (SV.ptr 1 0)), (5, (SV.ptr 2 0))], ogt (rangeTodo (bodyOf (T hold.Φ [] []) 47) 0 6), [5], false, none⟩], heap := [(6, .loop .ready none 47 (over (opqS 200000 28) [(3, (SV.ptr 0 0)), (4, (SV.ptr 1 0)), (5, (SV.ptr 2 0))]) [18, 19] ((rangeCode (bodyOf (T hold.Φ [] []) 47) 0).getD (.skip, .skip)).1 ((rangeCode (bodyOf (T hold.Φ [] []) 47) 0).getD (.skip, .skip)).2 5), (5, .defd true), (1, .cells [(SV.int .i64 (IE.lit 0)), (SV.int .i64 (IE.lit 0)), (SV.int .i64 (IE.lit 0))] 68), (2, .cells [(SV.bool (BE.lit false))] 4), (0, .cells [(SV.int .i64 (IE.var .i64 1))] 3)], next := 7, pc := .lit true :: ([] ++ [(BE.not (BE.le (IE.len (LE.rom 0)) (IE.fn .i64 2 (AL.lst (LE.rom 0) (AL.int .i64 (IE.var .i64 1) AL.nil))))), (BE.fn 4 (AL.lst (LE.rom 0) AL.nil)), (BE.le (IE.len (LE.rom 0)) (IE.lit 1000000)), (BE.le (IE.lit 0) (IE.var .i64 1000)), (BE.le (IE.var .i64 1000) (IE.len (LE.rom 0)))]) }
def tmfindIn : List (Nat × Cfg) := [(0, startF 47 cFindIn.pat (.lit true :: cFindIn.pre)), (1, tfindIn1)]
def selfindIn : Sel := [(104, 1, 1, 1)]
def wfindIn0_0 : VW := (VW.cut 1 [(BE.lit true), (BE.le (IE.len (LE.rom 0)) (IE.lit 1000000)), (BE.fn 4 (AL.lst (LE.rom 0) AL.nil)), (BE.not (BE.le (IE.len (LE.rom 0)) (IE.fn .i64 2 (AL.lst (LE.rom 0) (AL.int .i64 (IE.var .i64 1) AL.nil)))))] (Sx.Sub.mk [(.i64, (1000, (IE.lit 0)))] [] [] [] [] []))
def vwfindIn0 : List VW := [wfindIn0_0]
def pcfindIn1_0 : List BE := [(BE.lit true), (BE.not (BE.le (IE.len (LE.rom 0)) (IE.fn .i64 2 (AL.lst (LE.rom 0) (AL.int .i64 (IE.var .i64 1) AL.nil))))), (BE.fn 4 (AL.lst (LE.rom 0) AL.nil)), (BE.le (IE.len (LE.rom 0)) (IE.lit 1000000)), (BE.le (IE.lit 0) (IE.var .i64 1000)), (BE.le (IE.var .i64 1000) (IE.len (LE.rom 0)))]
def pcfindIn1_1 : List BE := ((BE.not (BE.le (IE.len (LE.rom 0)) (IE.var .i64 1000))) :: pcfindIn1_0)
def pcfindIn1_2 : List BE := ((BE.le (IE.cel .i64 (LE.rom 0) (IE.var .i64 1000) 0) (IE.var .i64 1)) :: pcfindIn1_1)
def wfindIn1_0 : VW := (VW.done ((BE.le (IE.len (LE.rom 0)) (IE.var .i64 1000)) :: pcfindIn1_0) (some [(G.i (IE.cel .i64 (LE.rom 0) (IE.fn .i64 2 (AL.lst (LE.rom 0) (AL.int .i64 (IE.var .i64 1) AL.nil))) 0) (IE.lit 0)), (G.i (IE.cel .i64 (LE.rom 0) (IE.fn .i64 2 (AL.lst (LE.rom 0) (AL.int .i64 (IE.var .i64 1) AL.nil))) 1) (IE.lit 0)), (G.i (IE.cel .i64 (LE.rom 0) (IE.fn .i64 2 (AL.lst (LE.rom 0) (AL.int .i64 (IE.var .i64 1) AL.nil))) 2) (IE.lit 0)), (G.b (BE.lit true) (BE.lit false))]))
def wfindIn1_1 : VW := (VW.done ((BE.eq (IE.cel .i64 (LE.rom 0) (IE.var .i64 1000) 0) (IE.var .i64 1)) :: pcfindIn1_2) (some [(G.i (IE.cel .i64 (LE.rom 0) (IE.fn .i64 2 (AL.lst (LE.rom 0) (AL.int .i64 (IE.var .i64 1) AL.nil))) 0) (IE.cel .i64 (LE.rom 0) (IE.var .i64 1000) 0)), (G.i (IE.cel .i64 (LE.rom 0) (IE.fn .i64 2 (AL.lst (LE.rom 0) (AL.int .i64 (IE.var .i64 1) AL.nil))) 1) (IE.cel .i64 (LE.rom 0) (IE.var .i64 1000) 1)), (G.i (IE.cel .i64 (LE.rom 0) (IE.fn .i64 2 (AL.lst (LE.rom 0) (AL.int .i64 (IE.var .i64 1) AL.nil))) 2) (IE.cel .i64 (LE.rom 0) (IE.var .i64 1000) 2))]))
def wfindIn1_2 : VW := (VW.cut 1 ((BE.not (BE.eq (IE.cel .i64 (LE.rom 0) (IE.var .i64 1000) 0) (IE.var .i64 1))) :: pcfindIn1_2) (Sx.Sub.mk [(.i64, (1000, (IE.add (IE.var .i64 1000) (IE.lit 1))))] [] [] [] [] []))
def wfindIn1_3 : VW := (VW.done ((BE.not (BE.le (IE.cel .i64 (LE.rom 0) (IE.var .i64 1000) 0) (IE.var .i64 1))) :: pcfindIn1_1) (some [(G.i (IE.cel .i64 (LE.rom 0) (IE.fn .i64 2 (AL.lst (LE.rom 0) (AL.int .i64 (IE.var .i64 1) AL.nil))) 0) (IE.lit 0)), (G.i (IE.cel .i64 (LE.rom 0) (IE.fn .i64 2 (AL.lst (LE.rom 0) (AL.int .i64 (IE.var .i64 1) AL.nil))) 1) (IE.lit 0)), (G.i (IE.cel .i64 (LE.rom 0) (IE.fn .i64 2 (AL.lst (LE.rom 0) (AL.int .i64 (IE.var .i64 1) AL.nil))) 2) (IE.lit 0)), (G.b (BE.lit true) (BE.lit false))]))
def vwfindIn1 : List VW := [wfindIn1_0, wfindIn1_1, wfindIn1_2, wfindIn1_3]
def vwfindIn : Nat → List VW
  | 0 => vwfindIn0
  | 1 => vwfindIn1
  | _ => []
end
def invfindIn : Nat → Lt → Prop
  | 1, l => findN (l.z.rl 0) (l.i .i64 1) (l.i .i64 1000).toNat = (l.i .i64 1000).toNat
  | _, _ => True
def msfindIn : Nat → Lt → Nat
  | 0, l => (l.z.rl 0).length + 1
  | 1, l => (l.z.rl 0).length - (l.i .i64 1000).toNat
  | _, _ => 0
theorem vcfindIn0_0 : VC TTfindIn invfindIn msfindIn 0 (startF 47 cFindIn.pat (.lit true :: cFindIn.pre)) wfindIn0_0 := by
  intro ρ kn hi hp
  have hF : ρ.z.F = hold.Φ := kn.F
  simp only [h_nil, h_cons, d_le, d_eq, d_not, d_var, d_lit, d_cel, d_leq, d_fn, d_and, d_iff, IE.den, LE.den, AL.den, lenV, true_and, and_true, hF, pi1, pi2, pi3, pi4, pl2, pb1, pb2, pb3, pb4, pb5, pb6] at hp
  obtain ⟨p1, p2, p3⟩ := hp
  refine (show (findN (ρ.z.rl 0) (ρ.i .i64 1) (0 : Int).toNat = (0 : Int).toNat) ∧ (((ρ.z.rl 0).length - (0 : Int).toNat : Nat) < (ρ.z.rl 0).length + 1) from ?_)
  exact ⟨rfl, by omega⟩
def ivfindIn1 (ρ : Rho) : Prop := findN (ρ.z.rl 0) (ρ.i .i64 1) (ρ.i .i64 1000).toNat = (ρ.i .i64 1000).toNat
theorem vcfindIn1_0 : VC TTfindIn invfindIn msfindIn 1 tfindIn1 wfindIn1_0 := by
  intro ρ kn hi hp
  have hi : ivfindIn1 ρ := hi
  unfold ivfindIn1 at hi
  have hF : ρ.z.F = hold.Φ := kn.F
  simp only [h_nil, h_cons, d_le, d_eq, d_not, d_var, d_lit, d_cel, d_leq, d_fn, d_and, d_iff, IE.den, LE.den, AL.den, lenV, true_and, and_true, pcfindIn1_0, hF, pi1, pi2, pi3, pi4, pl2, pb1, pb2, pb3, pb4, pb5, pb6] at hp
  obtain ⟨p1, p2, p3, p4, p5, p6⟩ := hp
  refine all_cons (show (clampK .i64 (intV (celV (ρ.z.rl 0) (clampK .i64 (ρ.z.F.i 2 [.lst (ρ.z.rl 0), .int .i64 (ρ.i .i64 1)])) 0))) = (0 : Int) from ?_) (all_cons (show (clampK .i64 (intV (celV (ρ.z.rl 0) (clampK .i64 (ρ.z.F.i 2 [.lst (ρ.z.rl 0), .int .i64 (ρ.i .i64 1)])) 1))) = (0 : Int) from ?_) (all_cons (show (clampK .i64 (intV (celV (ρ.z.rl 0) (clampK .i64 (ρ.z.F.i 2 [.lst (ρ.z.rl 0), .int .i64 (ρ.i .i64 1)])) 2))) = (0 : Int) from ?_) (all_cons (show true = false from ?_) (all_nil))))
  all_goals try simp only [hF, pi1, pi2, pi3, pi4, pl2, pb1, pb2, pb3, pb4, pb5, pb6]
  all_goals
    have b1 := first_le (fun k => decide (atI (ρ.z.rl 0) k 0 = ρ.i .i64 1)) (ρ.z.rl 0).length
    have b2 : findN (ρ.z.rl 0) (ρ.i .i64 1) (ρ.z.rl 0).length ≤ (ρ.z.rl 0).length := b1
    have c : clampK .i64 ((findN (ρ.z.rl 0) (ρ.i .i64 1) (ρ.z.rl 0).length : Nat) : Int) = ((findN (ρ.z.rl 0) (ρ.i .i64 1) (ρ.z.rl 0).length : Nat) : Int) := clampS (by omega) (by omega)
    simp only [c] at *
    first
      | omega
      | (have e := find_hit (by omega) (by omega) hi (by assumption); first | omega | (rw [e]; done) | (rw [e]; assumption) | skip)
      | (have e := find_gt (by assumption) (by omega) (by omega) hi (by omega); omega)
      | (have e := find_miss (by omega) (by omega) (by omega) hi; omega)
      | skip
theorem vcfindIn1_1 : VC TTfindIn invfindIn msfindIn 1 tfindIn1 wfindIn1_1 := by
  intro ρ kn hi hp
  have hi : ivfindIn1 ρ := hi
  unfold ivfindIn1 at hi
  have hF : ρ.z.F = hold.Φ := kn.F
  simp only [h_nil, h_cons, d_le, d_eq, d_not, d_var, d_lit, d_cel, d_leq, d_fn, d_and, d_iff, IE.den, LE.den, AL.den, lenV, true_and, and_true, pcfindIn1_2, pcfindIn1_1, pcfindIn1_0, hF, pi1, pi2, pi3, pi4, pl2, pb1, pb2, pb3, pb4, pb5, pb6] at hp
  obtain ⟨p1, p2, p3, p4, p5, p6, p7, p8⟩ := hp
  refine all_cons (show (clampK .i64 (intV (celV (ρ.z.rl 0) (clampK .i64 (ρ.z.F.i 2 [.lst (ρ.z.rl 0), .int .i64 (ρ.i .i64 1)])) 0))) = (clampK .i64 (intV (celV (ρ.z.rl 0) (ρ.i .i64 1000) 0))) from ?_) (all_cons (show (clampK .i64 (intV (celV (ρ.z.rl 0) (clampK .i64 (ρ.z.F.i 2 [.lst (ρ.z.rl 0), .int .i64 (ρ.i .i64 1)])) 1))) = (clampK .i64 (intV (celV (ρ.z.rl 0) (ρ.i .i64 1000) 1))) from ?_) (all_cons (show (clampK .i64 (intV (celV (ρ.z.rl 0) (clampK .i64 (ρ.z.F.i 2 [.lst (ρ.z.rl 0), .int .i64 (ρ.i .i64 1)])) 2))) = (clampK .i64 (intV (celV (ρ.z.rl 0) (ρ.i .i64 1000) 2))) from ?_) (all_nil)))
  all_goals try simp only [hF, pi1, pi2, pi3, pi4, pl2, pb1, pb2, pb3, pb4, pb5, pb6]
  all_goals
    have b1 := first_le (fun k => decide (atI (ρ.z.rl 0) k 0 = ρ.i .i64 1)) (ρ.z.rl 0).length
    have b2 : findN (ρ.z.rl 0) (ρ.i .i64 1) (ρ.z.rl 0).length ≤ (ρ.z.rl 0).length := b1
    have c : clampK .i64 ((findN (ρ.z.rl 0) (ρ.i .i64 1) (ρ.z.rl 0).length : Nat) : Int) = ((findN (ρ.z.rl 0) (ρ.i .i64 1) (ρ.z.rl 0).length : Nat) : Int) := clampS (by omega) (by omega)
    simp only [c] at *
    first
      | omega
      | (have e := find_hit (by omega) (by omega) hi (by assumption); first | omega | (rw [e]; done) | (rw [e]; assumption) | skip)
      | (have e := find_gt (by assumption) (by omega) (by omega) hi (by omega); omega)
      | (have e := find_miss (by omega) (by omega) (by omega) hi; omega)
      | skip
theorem vcfindIn1_2 : VC TTfindIn invfindIn msfindIn 1 tfindIn1 wfindIn1_2 := by
  intro ρ kn hi hp
  have hi : ivfindIn1 ρ := hi
  unfold ivfindIn1 at hi
  have hF : ρ.z.F = hold.Φ := kn.F
  simp only [h_nil, h_cons, d_le, d_eq, d_not, d_var, d_lit, d_cel, d_leq, d_fn, d_and, d_iff, IE.den, LE.den, AL.den, lenV, true_and, and_true, pcfindIn1_2, pcfindIn1_1, pcfindIn1_0, hF, pi1, pi2, pi3, pi4, pl2, pb1, pb2, pb3, pb4, pb5, pb6] at hp
  obtain ⟨p1, p2, p3, p4, p5, p6, p7, p8⟩ := hp
  refine (show (findN (ρ.z.rl 0) (ρ.i .i64 1) ((ρ.i .i64 1000) + (1 : Int)).toNat = ((ρ.i .i64 1000) + (1 : Int)).toNat) ∧ (((ρ.z.rl 0).length - ((ρ.i .i64 1000) + (1 : Int)).toNat : Nat) < (ρ.z.rl 0).length - (ρ.i .i64 1000).toNat) from ?_)
  exact ⟨find_go (by omega) hi (by assumption), by omega⟩
theorem vcfindIn1_3 : VC TTfindIn invfindIn msfindIn 1 tfindIn1 wfindIn1_3 := by
  intro ρ kn hi hp
  have hi : ivfindIn1 ρ := hi
  unfold ivfindIn1 at hi
  have hF : ρ.z.F = hold.Φ := kn.F
  simp only [h_nil, h_cons, d_le, d_eq, d_not, d_var, d_lit, d_cel, d_leq, d_fn, d_and, d_iff, IE.den, LE.den, AL.den, lenV, true_and, and_true, pcfindIn1_1, pcfindIn1_0, hF, pi1, pi2, pi3, pi4, pl2, pb1, pb2, pb3, pb4, pb5, pb6] at hp
  obtain ⟨p1, p2, p3, p4, p5, p6, p7⟩ := hp
  refine all_cons (show (clampK .i64 (intV (celV (ρ.z.rl 0) (clampK .i64 (ρ.z.F.i 2 [.lst (ρ.z.rl 0), .int .i64 (ρ.i .i64 1)])) 0))) = (0 : Int) from ?_) (all_cons (show (clampK .i64 (intV (celV (ρ.z.rl 0) (clampK .i64 (ρ.z.F.i 2 [.lst (ρ.z.rl 0), .int .i64 (ρ.i .i64 1)])) 1))) = (0 : Int) from ?_) (all_cons (show (clampK .i64 (intV (celV (ρ.z.rl 0) (clampK .i64 (ρ.z.F.i 2 [.lst (ρ.z.rl 0), .int .i64 (ρ.i .i64 1)])) 2))) = (0 : Int) from ?_) (all_cons (show true = false from ?_) (all_nil))))
  all_goals try simp only [hF, pi1, pi2, pi3, pi4, pl2, pb1, pb2, pb3, pb4, pb5, pb6]
  all_goals
    have b1 := first_le (fun k => decide (atI (ρ.z.rl 0) k 0 = ρ.i .i64 1)) (ρ.z.rl 0).length
    have b2 : findN (ρ.z.rl 0) (ρ.i .i64 1) (ρ.z.rl 0).length ≤ (ρ.z.rl 0).length := b1
    have c : clampK .i64 ((findN (ρ.z.rl 0) (ρ.i .i64 1) (ρ.z.rl 0).length : Nat) : Int) = ((findN (ρ.z.rl 0) (ρ.i .i64 1) (ρ.z.rl 0).length : Nat) : Int) := clampS (by omega) (by omega)
    simp only [c] at *
    first
      | omega
      | (have e := find_hit (by omega) (by omega) hi (by assumption); first | omega | (rw [e]; done) | (rw [e]; assumption) | skip)
      | (have e := find_gt (by assumption) (by omega) (by omega) hi (by omega); omega)
      | (have e := find_miss (by omega) (by omega) (by omega) hi; omega)
      | skip
theorem vcsfindIn0 : ∀ v ∈ vwfindIn 0, VC TTfindIn invfindIn msfindIn 0 (startF 47 cFindIn.pat (.lit true :: cFindIn.pre)) v := all_cons vcfindIn0_0 (all_nil)
theorem okfindIn0 : cfgOk (startF 47 cFindIn.pat (.lit true :: cFindIn.pre)) = true := by kernel_rfl
theorem sgfindIn0 : segL cFindIn.roms cFindIn (seg TTfindIn selfindIn 900 tmfindIn (startF 47 cFindIn.pat (.lit true :: cFindIn.pre))) = (true, codesR tmfindIn (views (seg TTfindIn selfindIn 900 tmfindIn (startF 47 cFindIn.pat (.lit true :: cFindIn.pre)))), vwfindIn 0) := by kernel_rfl
theorem vcsfindIn1 : ∀ v ∈ vwfindIn 1, VC TTfindIn invfindIn msfindIn 1 tfindIn1 v := all_cons vcfindIn1_0 (all_cons vcfindIn1_1 (all_cons vcfindIn1_2 (all_cons vcfindIn1_3 (all_nil))))
theorem okfindIn1 : cfgOk tfindIn1 = true := by kernel_rfl
theorem sgfindIn1 : segL cFindIn.roms cFindIn (seg TTfindIn selfindIn 900 tmfindIn tfindIn1) = (true, codesR tmfindIn (views (seg TTfindIn selfindIn 900 tmfindIn tfindIn1)), vwfindIn 1) := by kernel_rfl
theorem lnfindIn0 : ∀ ρ, Known TTfindIn (startF 47 cFindIn.pat (.lit true :: cFindIn.pre)) ρ → invfindIn 0 ρ.lt → Holds ρ (leanOf (Cfg.pc (startF 47 cFindIn.pat (.lit true :: cFindIn.pre)))) := by
  intro ρ _ _
  exact (show Holds ρ [] from fun p hp => by cases hp)
theorem lnfindIn1 : ∀ ρ, Known TTfindIn tfindIn1 ρ → invfindIn 1 ρ.lt → Holds ρ (leanOf (Cfg.pc tfindIn1)) := by
  intro ρ _ _
  exact (show Holds ρ [] from fun p hp => by cases hp)
theorem told_findIn : Sx.Told hold.Φ cFindIn := by
  refine told_of (cs := [cRightP]) (all_cons told_rightP (all_nil)) (sel := selfindIn) 900 tmfindIn invfindIn msfindIn vwfindIn 0 (pc0 := (.lit true :: cFindIn.pre)) (by kernel_rfl) (by kernel_rfl) (by kernel_rfl) post_findIn ?_ ?_ ?_ rfl (fun ρ _ h => h.cons (p := .lit true) (by simp only [BE.den])) (fun _ _ _ _ => trivial) ?_
  · intro k C h
    have := lk_mem h
    simp only [tmfindIn, List.mem_cons, Prod.mk.injEq, List.not_mem_nil, or_false] at this
    rcases this with ⟨rfl, rfl⟩ | ⟨rfl, rfl⟩
    · exact okfindIn0
    · exact okfindIn1
  · intro k C h
    have := lk_mem h
    simp only [tmfindIn, List.mem_cons, Prod.mk.injEq, List.not_mem_nil, or_false] at this
    rcases this with ⟨rfl, rfl⟩ | ⟨rfl, rfl⟩
    · exact sgfindIn0
    · exact sgfindIn1
  · intro k C h
    have := lk_mem h
    simp only [tmfindIn, List.mem_cons, Prod.mk.injEq, List.not_mem_nil, or_false] at this
    rcases this with ⟨rfl, rfl⟩ | ⟨rfl, rfl⟩
    · exact vcsfindIn0
    · exact vcsfindIn1
  · intro k C h
    have := lk_mem h
    simp only [tmfindIn, List.mem_cons, Prod.mk.injEq, List.not_mem_nil, or_false] at this
    rcases this with ⟨rfl, rfl⟩ | ⟨rfl, rfl⟩
    · exact lnfindIn0
    · exact lnfindIn1
noncomputable section
abbrev TTfindOut : Tab := T hold.Φ cFindOut.roms [cRightP]
def tfindOut1 : Cfg := { top := ⟨104, over (opqS 10000 18) [(0, (SV.func (Go.Fn.yield 6) [] [])), (5, (SV.rom 0 (IE.lit 0) (IE.len (LE.rom 0)) none)), (6, (SV.int .i64 (IE.len (LE.rom 0)))), (7, (SV.int .i64 (IE.var .i64 1000)))], ogt (loopTodo (bodyOf (T hold.Φ [] []) 104) 0), [], false, none⟩, rest := [⟨47, over (opqS 30000 28) [(4, (SV.ptr 1 0)), (5, (SV.ptr 2 0))], ogt (rangeTodo (bodyOf (T hold.Φ [] []) 47) 0 6), [5], false, none⟩], heap := [(6, .loop .ready none 47 (over (opqS 200000 28) [(3, (SV.ptr 0 0)), (4, (SV.ptr 1 0)), (5, (SV.ptr 2 0))]) [18, 19] ((rangeCode (bodyOf (T hold.Φ [] []) 47) 0).getD (.skip, .skip)).1 ((rangeCode (bodyOf (T hold.Φ [] []) 47) 0).getD (.skip, .skip)).2 5), (5, .defd true), (1, .cells [(SV.int .i64 (IE.lit 0)), (SV.int .i64 (IE.lit 0)), (SV.int .i64 (IE.lit 0))] 68), (2, .cells [(SV.bool (BE.lit false))] 4), (0, .cells [(SV.int .i64 (IE.var .i64 1))] 3)], next := 7, pc := .lit true :: ([] ++ [(BE.le (IE.len (LE.rom 0)) (IE.fn .i64 2 (AL.lst (LE.rom 0) (AL.int .i64 (IE.var .i64 1) AL.nil)))), (BE.fn 4 (AL.lst (LE.rom 0) AL.nil)), (BE.le (IE.len (LE.rom 0)) (IE.lit 1000000)), (BE.le (IE.lit 0) (IE.var .i64 1000)), (BE.le (IE.var .i64 1000) (IE.len (LE.rom 0)))]) }
def tmfindOut : List (Nat × Cfg) := [(0, startF 47 cFindOut.pat (.lit true :: cFindOut.pre)), (1, tfindOut1)]
def selfindOut : Sel := [(104, 1, 1, 1)]
def wfindOut0_0 : VW := (VW.cut 1 [(BE.lit true), (BE.le (IE.len (LE.rom 0)) (IE.lit 1000000)), (BE.fn 4 (AL.lst (LE.rom 0) AL.nil)), (BE.le (IE.len (LE.rom 0)) (IE.fn .i64 2 (AL.lst (LE.rom 0) (AL.int .i64 (IE.var .i64 1) AL.nil))))] (Sx.Sub.mk [(.i64, (1000, (IE.lit 0)))] [] [] [] [] []))
def vwfindOut0 : List VW := [wfindOut0_0]
def pcfindOut1_0 : List BE := [(BE.lit true), (BE.le (IE.len (LE.rom 0)) (IE.fn .i64 2 (AL.lst (LE.rom 0) (AL.int .i64 (IE.var .i64 1) AL.nil)))), (BE.fn 4 (AL.lst (LE.rom 0) AL.nil)), (BE.le (IE.len (LE.rom 0)) (IE.lit 1000000)), (BE.le (IE.lit 0) (IE.var .i64 1000)), (BE.le (IE.var .i64 1000) (IE.len (LE.rom 0)))]
def pcfindOut1_1 : List BE := ((BE.not (BE.le (IE.len (LE.rom 0)) (IE.var .i64 1000))) :: pcfindOut1_0)
def pcfindOut1_2 : List BE := ((BE.le (IE.cel .i64 (LE.rom 0) (IE.var .i64 1000) 0) (IE.var .i64 1)) :: pcfindOut1_1)
def wfindOut1_0 : VW := (VW.done ((BE.le (IE.len (LE.rom 0)) (IE.var .i64 1000)) :: pcfindOut1_0) (some []))
def wfindOut1_1 : VW := (VW.done ((BE.eq (IE.cel .i64 (LE.rom 0) (IE.var .i64 1000) 0) (IE.var .i64 1)) :: pcfindOut1_2) (some [(G.i (IE.lit 0) (IE.cel .i64 (LE.rom 0) (IE.var .i64 1000) 0)), (G.i (IE.lit 0) (IE.cel .i64 (LE.rom 0) (IE.var .i64 1000) 1)), (G.i (IE.lit 0) (IE.cel .i64 (LE.rom 0) (IE.var .i64 1000) 2)), (G.b (BE.lit false) (BE.lit true))]))
def wfindOut1_2 : VW := (VW.cut 1 ((BE.not (BE.eq (IE.cel .i64 (LE.rom 0) (IE.var .i64 1000) 0) (IE.var .i64 1))) :: pcfindOut1_2) (Sx.Sub.mk [(.i64, (1000, (IE.add (IE.var .i64 1000) (IE.lit 1))))] [] [] [] [] []))
def wfindOut1_3 : VW := (VW.done ((BE.not (BE.le (IE.cel .i64 (LE.rom 0) (IE.var .i64 1000) 0) (IE.var .i64 1))) :: pcfindOut1_1) (some []))
def vwfindOut1 : List VW := [wfindOut1_0, wfindOut1_1, wfindOut1_2, wfindOut1_3]
def vwfindOut : Nat → List VW
  | 0 => vwfindOut0
  | 1 => vwfindOut1
  | _ => []
end
def invfindOut : Nat → Lt → Prop
  | 1, l => findN (l.z.rl 0) (l.i .i64 1) (l.i .i64 1000).toNat = (l.i .i64 1000).toNat
  | _, _ => True
def msfindOut : Nat → Lt → Nat
  | 0, l => (l.z.rl 0).length + 1
  | 1, l => (l.z.rl 0).length - (l.i .i64 1000).toNat
  | _, _ => 0
theorem vcfindOut0_0 : VC TTfindOut invfindOut msfindOut 0 (startF 47 cFindOut.pat (.lit true :: cFindOut.pre)) wfindOut0_0 := by
  intro ρ kn hi hp
  have hF : ρ.z.F = hold.Φ := kn.F
  simp only [h_nil, h_cons, d_le, d_eq, d_not, d_var, d_lit, d_cel, d_leq, d_fn, d_and, d_iff, IE.den, LE.den, AL.den, lenV, true_and, and_true, hF, pi1, pi2, pi3, pi4, pl2, pb1, pb2, pb3, pb4, pb5, pb6] at hp
  obtain ⟨p1, p2, p3⟩ := hp
  refine (show (findN (ρ.z.rl 0) (ρ.i .i64 1) (0 : Int).toNat = (0 : Int).toNat) ∧ (((ρ.z.rl 0).length - (0 : Int).toNat : Nat) < (ρ.z.rl 0).length + 1) from ?_)
  exact ⟨rfl, by omega⟩
def ivfindOut1 (ρ : Rho) : Prop := findN (ρ.z.rl 0) (ρ.i .i64 1) (ρ.i .i64 1000).toNat = (ρ.i .i64 1000).toNat
theorem vcfindOut1_1 : VC TTfindOut invfindOut msfindOut 1 tfindOut1 wfindOut1_1 := by
  intro ρ kn hi hp
  have hi : ivfindOut1 ρ := hi
  unfold ivfindOut1 at hi
  have hF : ρ.z.F = hold.Φ := kn.F
  simp only [h_nil, h_cons, d_le, d_eq, d_not, d_var, d_lit, d_cel, d_leq, d_fn, d_and, d_iff, IE.den, LE.den, AL.den, lenV, true_and, and_true, pcfindOut1_2, pcfindOut1_1, pcfindOut1_0, hF, pi1, pi2, pi3, pi4, pl2, pb1, pb2, pb3, pb4, pb5, pb6] at hp
  obtain ⟨p1, p2, p3, p4, p5, p6, p7, p8⟩ := hp
  refine all_cons (show (0 : Int) = (clampK .i64 (intV (celV (ρ.z.rl 0) (ρ.i .i64 1000) 0))) from ?_) (all_cons (show (0 : Int) = (clampK .i64 (intV (celV (ρ.z.rl 0) (ρ.i .i64 1000) 1))) from ?_) (all_cons (show (0 : Int) = (clampK .i64 (intV (celV (ρ.z.rl 0) (ρ.i .i64 1000) 2))) from ?_) (all_cons (show false = true from ?_) (all_nil))))
  all_goals try simp only [hF, pi1, pi2, pi3, pi4, pl2, pb1, pb2, pb3, pb4, pb5, pb6]
  all_goals
    have b1 := first_le (fun k => decide (atI (ρ.z.rl 0) k 0 = ρ.i .i64 1)) (ρ.z.rl 0).length
    have b2 : findN (ρ.z.rl 0) (ρ.i .i64 1) (ρ.z.rl 0).length ≤ (ρ.z.rl 0).length := b1
    have c : clampK .i64 ((findN (ρ.z.rl 0) (ρ.i .i64 1) (ρ.z.rl 0).length : Nat) : Int) = ((findN (ρ.z.rl 0) (ρ.i .i64 1) (ρ.z.rl 0).length : Nat) : Int) := clampS (by omega) (by omega)
    simp only [c] at *
    first
      | omega
      | (have e := find_hit (by omega) (by omega) hi (by assumption); first | omega | (rw [e]; done) | (rw [e]; assumption) | skip)
      | (have e := find_gt (by assumption) (by omega) (by omega) hi (by omega); omega)
      | (have e := find_miss (by omega) (by omega) (by omega) hi; omega)
      | skip
theorem vcfindOut1_2 : VC TTfindOut invfindOut msfindOut 1 tfindOut1 wfindOut1_2 := by
  intro ρ kn hi hp
  have hi : ivfindOut1 ρ := hi
  unfold ivfindOut1 at hi
  have hF : ρ.z.F = hold.Φ := kn.F
  simp only [h_nil, h_cons, d_le, d_eq, d_not, d_var, d_lit, d_cel, d_leq, d_fn, d_and, d_iff, IE.den, LE.den, AL.den, lenV, true_and, and_true, pcfindOut1_2, pcfindOut1_1, pcfindOut1_0, hF, pi1, pi2, pi3, pi4, pl2, pb1, pb2, pb3, pb4, pb5, pb6] at hp
  obtain ⟨p1, p2, p3, p4, p5, p6, p7, p8⟩ := hp
  refine (show (findN (ρ.z.rl 0) (ρ.i .i64 1) ((ρ.i .i64 1000) + (1 : Int)).toNat = ((ρ.i .i64 1000) + (1 : Int)).toNat) ∧ (((ρ.z.rl 0).length - ((ρ.i .i64 1000) + (1 : Int)).toNat : Nat) < (ρ.z.rl 0).length - (ρ.i .i64 1000).toNat) from ?_)
  exact ⟨find_go (by omega) hi (by assumption), by omega⟩
theorem vcsfindOut0 : ∀ v ∈ vwfindOut 0, VC TTfindOut invfindOut msfindOut 0 (startF 47 cFindOut.pat (.lit true :: cFindOut.pre)) v := all_cons vcfindOut0_0 (all_nil)
theorem okfindOut0 : cfgOk (startF 47 cFindOut.pat (.lit true :: cFindOut.pre)) = true := by kernel_rfl
theorem sgfindOut0 : segL cFindOut.roms cFindOut (seg TTfindOut selfindOut 900 tmfindOut (startF 47 cFindOut.pat (.lit true :: cFindOut.pre))) = (true, codesR tmfindOut (views (seg TTfindOut selfindOut 900 tmfindOut (startF 47 cFindOut.pat (.lit true :: cFindOut.pre)))), vwfindOut 0) := by kernel_rfl
theorem vcsfindOut1 : ∀ v ∈ vwfindOut 1, VC TTfindOut invfindOut msfindOut 1 tfindOut1 v := all_cons (fun _ _ _ _ => all_nil) (all_cons vcfindOut1_1 (all_cons vcfindOut1_2 (all_cons (fun _ _ _ _ => all_nil) (all_nil))))
theorem okfindOut1 : cfgOk tfindOut1 = true := by kernel_rfl
theorem sgfindOut1 : segL cFindOut.roms cFindOut (seg TTfindOut selfindOut 900 tmfindOut tfindOut1) = (true, codesR tmfindOut (views (seg TTfindOut selfindOut 900 tmfindOut tfindOut1)), vwfindOut 1) := by kernel_rfl
theorem lnfindOut0 : ∀ ρ, Known TTfindOut (startF 47 cFindOut.pat (.lit true :: cFindOut.pre)) ρ → invfindOut 0 ρ.lt → Holds ρ (leanOf (Cfg.pc (startF 47 cFindOut.pat (.lit true :: cFindOut.pre)))) := by
  intro ρ _ _
  exact (show Holds ρ [] from fun p hp => by cases hp)
theorem lnfindOut1 : ∀ ρ, Known TTfindOut tfindOut1 ρ → invfindOut 1 ρ.lt → Holds ρ (leanOf (Cfg.pc tfindOut1)) := by
  intro ρ _ _
  exact (show Holds ρ [] from fun p hp => by cases hp)
theorem told_findOut : Sx.Told hold.Φ cFindOut := by
  refine told_of (cs := [cRightP]) (all_cons told_rightP (all_nil)) (sel := selfindOut) 900 tmfindOut invfindOut msfindOut vwfindOut 0 (pc0 := (.lit true :: cFindOut.pre)) (by kernel_rfl) (by kernel_rfl) (by kernel_rfl) (post_nil rfl) ?_ ?_ ?_ rfl (fun ρ _ h => h.cons (p := .lit true) (by simp only [BE.den])) (fun _ _ _ _ => trivial) ?_
  · intro k C h
    have := lk_mem h
    simp only [tmfindOut, List.mem_cons, Prod.mk.injEq, List.not_mem_nil, or_false] at this
    rcases this with ⟨rfl, rfl⟩ | ⟨rfl, rfl⟩
    · exact okfindOut0
    · exact okfindOut1
  · intro k C h
    have := lk_mem h
    simp only [tmfindOut, List.mem_cons, Prod.mk.injEq, List.not_mem_nil, or_false] at this
    rcases this with ⟨rfl, rfl⟩ | ⟨rfl, rfl⟩
    · exact sgfindOut0
    · exact sgfindOut1
  · intro k C h
    have := lk_mem h
    simp only [tmfindOut, List.mem_cons, Prod.mk.injEq, List.not_mem_nil, or_false] at this
    rcases this with ⟨rfl, rfl⟩ | ⟨rfl, rfl⟩
    · exact vcsfindOut0
    · exact vcsfindOut1
  · intro k C h
    have := lk_mem h
    simp only [tmfindOut, List.mem_cons, Prod.mk.injEq, List.not_mem_nil, or_false] at this
    rcases this with ⟨rfl, rfl⟩ | ⟨rfl, rfl⟩
    · exact lnfindOut0
    · exact lnfindOut1
theorem told_findN : Sx.Told hold.Φ cFindN := told_auto (cs := [cRightP]) (all_cons told_rightP (all_nil)) 900 (by kernel_rfl) (by kernel_rfl) (by kernel_rfl) (post_nil rfl) (by kernel_rfl) (by kernel_rfl)
noncomputable section
abbrev TTfitsA : Tab := T hold.Φ cFitsA.roms [cM86, cM86z, cTogF]
def pcfitsA_0 : List BE := [(BE.lit true), (BE.fn 4 (AL.lst (LE.rom 0) AL.nil)), (BE.le (IE.lit 0) (IE.var .i64 1)), (BE.le (IE.var .i64 1) (IE.lit 5)), (BE.le (IE.len (LE.rom 0)) (IE.lit 999999))]
def wfitsA_0 : VW := (VW.done ((BE.eq (IE.len (LE.fn 2 (AL.lst (LE.rom 0) AL.nil))) (IE.len (LE.rom 0))) :: (BE.le (IE.lit 1) (IE.len (LE.rom 0))) :: pcfitsA_0) (some [(G.b (BE.fn 5 (AL.lst (LE.rom 0) (AL.int .i64 (IE.var .i64 1) AL.nil))) (BE.and (BE.fn 6 (AL.lst (LE.cat (LE.fn 2 (AL.lst (LE.rom 0) AL.nil)) (LE.one (AL.int .i64 (IE.var .i64 1) AL.nil))) AL.nil)) (BE.fn 3 (AL.lst (LE.cat (LE.fn 2 (AL.lst (LE.rom 0) AL.nil)) (LE.one (AL.int .i64 (IE.var .i64 1) AL.nil))) AL.nil))))]))
def wfitsA_1 : VW := (VW.done ((BE.not (BE.le (IE.lit 1) (IE.len (LE.rom 0)))) :: pcfitsA_0) (some [(G.b (BE.fn 5 (AL.lst (LE.rom 0) (AL.int .i64 (IE.var .i64 1) AL.nil))) (BE.and (BE.fn 6 (AL.lst (LE.one (AL.int .i64 (IE.var .i64 1) AL.nil)) AL.nil)) (BE.fn 3 (AL.lst (LE.one (AL.int .i64 (IE.var .i64 1) AL.nil)) AL.nil))))]))
def vwfitsA : List VW := [wfitsA_0, wfitsA_1]
end
theorem vcfitsA_0 : VD TTfitsA (st0 cFitsA) wfitsA_0 := by
  intro ρ kn hp
  have hF : ρ.z.F = hold.Φ := kn.F
  simp only [h_nil, h_cons, d_le, d_eq, d_not, d_var, d_lit, d_cel, d_leq, d_fn, d_and, d_iff, IE.den, LE.den, AL.den, lenV, true_and, and_true, pcfitsA_0, hF, pi1, pi2, pi3, pi4, pl2, pb1, pb2, pb3, pb4, pb5, pb6] at hp
  obtain ⟨p1, p2, p3, p4, p5, p6⟩ := hp
  refine all_cons (show (ρ.z.F.b 5 [.lst (ρ.z.rl 0), .int .i64 (ρ.i .i64 1)]) = ((ρ.z.F.b 6 [.lst ((ρ.z.F.l 2 [.lst (ρ.z.rl 0)]) ++ ([[Go.Value.int .i64 (ρ.i .i64 1)]] : LV))]) && (ρ.z.F.b 3 [.lst ((ρ.z.F.l 2 [.lst (ρ.z.rl 0)]) ++ ([[Go.Value.int .i64 (ρ.i .i64 1)]] : LV))])) from ?_) (all_nil)
  all_goals try simp only [hF, pi1, pi2, pi3, pi4, pl2, pb1, pb2, pb3, pb4, pb5, pb6]
  first
    | (obtain ⟨g1, g2⟩ := more_tog (m := ρ.i .i64 1) (by assumption) (by omega)
       rw [g1, g2, Bool.true_and])
    | (have e : ρ.z.rl 0 = [] := List.length_eq_zero_iff.1 (by omega)
       obtain ⟨g1, g2⟩ := more_tog (m := ρ.i .i64 1) (R := ρ.z.rl 0) (by assumption) (by omega)
       rw [e] at g1 g2 ⊢
       have g3 : modesN [[Value.int .i64 (ρ.i .i64 1)]] [[Value.int .i64 (ρ.i .i64 1)]].length = true := g1
       have g4 : togN [[Value.int .i64 (ρ.i .i64 1)]] 0 [[Value.int .i64 (ρ.i .i64 1)]].length = fitsAll [] 2 (ρ.i .i64 1) ([] : LV).length := g2
       rw [g3, g4, Bool.true_and])
    | skip
theorem vcfitsA_1 : VD TTfitsA (st0 cFitsA) wfitsA_1 := by
  intro ρ kn hp
  have hF : ρ.z.F = hold.Φ := kn.F
  simp only [h_nil, h_cons, d_le, d_eq, d_not, d_var, d_lit, d_cel, d_leq, d_fn, d_and, d_iff, IE.den, LE.den, AL.den, lenV, true_and, and_true, pcfitsA_0, hF, pi1, pi2, pi3, pi4, pl2, pb1, pb2, pb3, pb4, pb5, pb6] at hp
  obtain ⟨p1, p2, p3, p4, p5⟩ := hp
  refine all_cons (show (ρ.z.F.b 5 [.lst (ρ.z.rl 0), .int .i64 (ρ.i .i64 1)]) = ((ρ.z.F.b 6 [.lst ([[Go.Value.int .i64 (ρ.i .i64 1)]] : LV)]) && (ρ.z.F.b 3 [.lst ([[Go.Value.int .i64 (ρ.i .i64 1)]] : LV)])) from ?_) (all_nil)
  all_goals try simp only [hF, pi1, pi2, pi3, pi4, pl2, pb1, pb2, pb3, pb4, pb5, pb6]
  first
    | (obtain ⟨g1, g2⟩ := more_tog (m := ρ.i .i64 1) (by assumption) (by omega)
       rw [g1, g2, Bool.true_and])
    | (have e : ρ.z.rl 0 = [] := List.length_eq_zero_iff.1 (by omega)
       obtain ⟨g1, g2⟩ := more_tog (m := ρ.i .i64 1) (R := ρ.z.rl 0) (by assumption) (by omega)
       rw [e] at g1 g2 ⊢
       have g3 : modesN [[Value.int .i64 (ρ.i .i64 1)]] [[Value.int .i64 (ρ.i .i64 1)]].length = true := g1
       have g4 : togN [[Value.int .i64 (ρ.i .i64 1)]] 0 [[Value.int .i64 (ρ.i .i64 1)]].length = fitsAll [] 2 (ρ.i .i64 1) ([] : LV).length := g2
       rw [g3, g4, Bool.true_and])
    | skip
theorem told_fitsA : Sx.Told hold.Φ cFitsA := told_vw (cs := [cM86, cM86z, cTogF]) (all_cons told_m86 (all_cons told_m86z (all_cons told_togF (all_nil)))) 4000 vwfitsA (by kernel_rfl) (by kernel_rfl) (by kernel_rfl) (post_nil rfl) (by kernel_rfl) (by kernel_rfl) (all_cons vcfitsA_0 (all_cons vcfitsA_1 (all_nil)))
end Go.Proofs.YteblnjgghbclpaaDoor.hold
