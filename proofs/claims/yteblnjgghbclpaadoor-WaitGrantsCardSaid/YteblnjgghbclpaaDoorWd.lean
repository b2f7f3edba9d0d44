/- Layer wait: places, told. No condition. -/
import Derived.Test.YteblnjgghbclpaaDoorWc
set_option linter.unusedVariables false
set_option linter.unusedSimpArgs false
set_option linter.deprecated false
namespace Go.Proofs.YteblnjgghbclpaaDoor.wt
open Go Go.Proofs.YteblnjgghbclpaaDoor.Sx
noncomputable section
abbrev TTfindIn : Tab := T wt.Φ cFindIn.roms [cQueueP]
def tfindIn1 : Cfg := { top := ⟨60, over (opqS 10000 20) [(1, (SV.func (Go.Fn.func 61) [] [(SV.ptr 0 0)])), (8, (SV.rom 0 (IE.lit 0) (IE.len (LE.rom 0)) none)), (9, (SV.int .i64 (IE.len (LE.rom 0)))), (10, (SV.int .i64 (IE.var .i64 1000)))], ogt (loopTodo (bodyOf (T wt.Φ [] []) 60) 0), [], false, none⟩, rest := [⟨19, over (opqS 30000 14) [], ogt (callTodo (bodyOf (T wt.Φ [] []) 19) 3 [2, 3, 4, 5, 6]), [], false, none⟩], heap := [(0, .cells [(SV.int .i64 (IE.var .i64 1))] 3)], next := 1, pc := .lit true :: ([] ++ [(BE.not (BE.le (IE.len (LE.rom 0)) (IE.fn .i64 2 (AL.lst (LE.rom 0) (AL.int .i64 (IE.var .i64 1) AL.nil))))), (BE.fn 4 (AL.lst (LE.rom 0) AL.nil)), (BE.le (IE.len (LE.rom 0)) (IE.lit 1000)), (BE.le (IE.lit 0) (IE.var .i64 1000)), (BE.le (IE.var .i64 1000) (IE.len (LE.rom 0)))]) }
def tmfindIn : List (Nat × Cfg) := [(0, startF 19 cFindIn.pat (.lit true :: cFindIn.pre)), (1, tfindIn1)]
def selfindIn : Sel := [(60, 1, 1, 1)]
def wfindIn0_0 : VW := (VW.cut 1 [(BE.lit true), (BE.le (IE.len (LE.rom 0)) (IE.lit 1000)), (BE.fn 4 (AL.lst (LE.rom 0) AL.nil)), (BE.not (BE.le (IE.len (LE.rom 0)) (IE.fn .i64 2 (AL.lst (LE.rom 0) (AL.int .i64 (IE.var .i64 1) AL.nil)))))] (Sx.Sub.mk [(.i64, (1000, (IE.lit 0)))] [] [] [] [] []))
def vwfindIn0 : List VW := [wfindIn0_0]
def pcfindIn1_0 : List BE := [(BE.lit true), (BE.not (BE.le (IE.len (LE.rom 0)) (IE.fn .i64 2 (AL.lst (LE.rom 0) (AL.int .i64 (IE.var .i64 1) AL.nil))))), (BE.fn 4 (AL.lst (LE.rom 0) AL.nil)), (BE.le (IE.len (LE.rom 0)) (IE.lit 1000)), (BE.le (IE.lit 0) (IE.var .i64 1000)), (BE.le (IE.var .i64 1000) (IE.len (LE.rom 0)))]
def pcfindIn1_1 : List BE := ((BE.not (BE.le (IE.len (LE.rom 0)) (IE.var .i64 1000))) :: pcfindIn1_0)
def wfindIn1_0 : VW := (VW.done ((BE.le (IE.len (LE.rom 0)) (IE.var .i64 1000)) :: pcfindIn1_0) (some [(G.i (IE.fn .i64 2 (AL.lst (LE.rom 0) (AL.int .i64 (IE.var .i64 1) AL.nil))) (IE.lit 0)), (G.b (BE.lit true) (BE.lit false))]))
def wfindIn1_1 : VW := (VW.done ((BE.eq (IE.cel .i64 (LE.rom 0) (IE.var .i64 1000) 0) (IE.var .i64 1)) :: pcfindIn1_1) (some [(G.i (IE.fn .i64 2 (AL.lst (LE.rom 0) (AL.int .i64 (IE.var .i64 1) AL.nil))) (IE.var .i64 1000))]))
def wfindIn1_2 : VW := (VW.cut 1 ((BE.not (BE.eq (IE.cel .i64 (LE.rom 0) (IE.var .i64 1000) 0) (IE.var .i64 1))) :: pcfindIn1_1) (Sx.Sub.mk [(.i64, (1000, (IE.add (IE.var .i64 1000) (IE.lit 1))))] [] [] [] [] []))
def vwfindIn1 : List VW := [wfindIn1_0, wfindIn1_1, wfindIn1_2]
def vwfindIn : Nat → List VW
  | 0 => vwfindIn0
  | 1 => vwfindIn1
  | _ => []
end
def invfindIn : Nat → Lt → Prop
  | 1, l => findN (l.z.rl 0) (l.i .i64 1) (l.i .i64 1000).toNat = (l.i .i64 1000).toNat
  | _, _ => True
def msfindIn : Nat → Lt → Nat
  | 0, l => (l.z.rl 0).length + 1
  | 1, l => (l.z.rl 0).length - (l.i .i64 1000).toNat
  | _, _ => 0
theorem vcfindIn0_0 : VC TTfindIn invfindIn msfindIn 0 (startF 19 cFindIn.pat (.lit true :: cFindIn.pre)) wfindIn0_0 := by
  intro ρ kn hi hp
  have hF : ρ.z.F = wt.Φ := kn.F
  simp only [h_nil, h_cons, d_le, d_eq, d_not, d_var, d_lit, d_cel, d_leq, d_fn, d_and, d_iff, IE.den, LE.den, AL.den, lenV, true_and, and_true, hF, pi2, pi5, pi6, pi7, pb1, pb2, pb4, pl4, pl6, pl8] at hp
  obtain ⟨p1, p2, p3⟩ := hp
  refine (show (findN (ρ.z.rl 0) (ρ.i .i64 1) (0 : Int).toNat = (0 : Int).toNat) ∧ (((ρ.z.rl 0).length - (0 : Int).toNat : Nat) < (ρ.z.rl 0).length + 1) from ?_)
  exact ⟨rfl, by omega⟩
def ivfindIn1 (ρ : Rho) : Prop := findN (ρ.z.rl 0) (ρ.i .i64 1) (ρ.i .i64 1000).toNat = (ρ.i .i64 1000).toNat
theorem vcfindIn1_0 : VC TTfindIn invfindIn msfindIn 1 tfindIn1 wfindIn1_0 := by
  intro ρ kn hi hp
  have hi : ivfindIn1 ρ := hi
  unfold ivfindIn1 at hi
  have hF : ρ.z.F = wt.Φ := kn.F
  simp only [h_nil, h_cons, d_le, d_eq, d_not, d_var, d_lit, d_cel, d_leq, d_fn, d_and, d_iff, IE.den, LE.den, AL.den, lenV, true_and, and_true, pcfindIn1_0, hF, pi2, pi5, pi6, pi7, pb1, pb2, pb4, pl4, pl6, pl8] at hp
  obtain ⟨p1, p2, p3, p4, p5, p6⟩ := hp
  refine all_cons (show (clampK .i64 (ρ.z.F.i 2 [.lst (ρ.z.rl 0), .int .i64 (ρ.i .i64 1)])) = (0 : Int) from ?_) (all_cons (show true = false from ?_) (all_nil))
  all_goals try simp only [hF, pi2, pi5, pi6, pi7, pb1, pb2, pb4, pl4, pl6, pl8]
  all_goals
    have b2 : findN (ρ.z.rl 0) (ρ.i .i64 1) (ρ.z.rl 0).length ≤ (ρ.z.rl 0).length := first_le _ _
    have c : clampK .i64 ((findN (ρ.z.rl 0) (ρ.i .i64 1) (ρ.z.rl 0).length : Nat) : Int) = ((findN (ρ.z.rl 0) (ρ.i .i64 1) (ρ.z.rl 0).length : Nat) : Int) := clampS (by omega) (by omega)
    simp only [c] at *
    first
      | (have e := find_hit (by omega) (by omega) hi (by assumption); omega)
      | (have e := find_miss (by omega) (by omega) (by omega) hi; omega)
theorem vcfindIn1_1 : VC TTfindIn invfindIn msfindIn 1 tfindIn1 wfindIn1_1 := by
  intro ρ kn hi hp
  have hi : ivfindIn1 ρ := hi
  unfold ivfindIn1 at hi
  have hF : ρ.z.F = wt.Φ := kn.F
  simp only [h_nil, h_cons, d_le, d_eq, d_not, d_var, d_lit, d_cel, d_leq, d_fn, d_and, d_iff, IE.den, LE.den, AL.den, lenV, true_and, and_true, pcfindIn1_1, pcfindIn1_0, hF, pi2, pi5, pi6, pi7, pb1, pb2, pb4, pl4, pl6, pl8] at hp
  obtain ⟨p1, p2, p3, p4, p5, p6, p7⟩ := hp
  refine all_cons (show (clampK .i64 (ρ.z.F.i 2 [.lst (ρ.z.rl 0), .int .i64 (ρ.i .i64 1)])) = (ρ.i .i64 1000) from ?_) (all_nil)
  all_goals try simp only [hF, pi2, pi5, pi6, pi7, pb1, pb2, pb4, pl4, pl6, pl8]
  all_goals
    have b2 : findN (ρ.z.rl 0) (ρ.i .i64 1) (ρ.z.rl 0).length ≤ (ρ.z.rl 0).length := first_le _ _
    have c : clampK .i64 ((findN (ρ.z.rl 0) (ρ.i .i64 1) (ρ.z.rl 0).length : Nat) : Int) = ((findN (ρ.z.rl 0) (ρ.i .i64 1) (ρ.z.rl 0).length : Nat) : Int) := clampS (by omega) (by omega)
    simp only [c] at *
    first
      | (have e := find_hit (by omega) (by omega) hi (by assumption); omega)
      | (have e := find_miss (by omega) (by omega) (by omega) hi; omega)
theorem vcfindIn1_2 : VC TTfindIn invfindIn msfindIn 1 tfindIn1 wfindIn1_2 := by
  intro ρ kn hi hp
  have hi : ivfindIn1 ρ := hi
  unfold ivfindIn1 at hi
  have hF : ρ.z.F = wt.Φ := kn.F
  simp only [h_nil, h_cons, d_le, d_eq, d_not, d_var, d_lit, d_cel, d_leq, d_fn, d_and, d_iff, IE.den, LE.den, AL.den, lenV, true_and, and_true, pcfindIn1_1, pcfindIn1_0, hF, pi2, pi5, pi6, pi7, pb1, pb2, pb4, pl4, pl6, pl8] at hp
  obtain ⟨p1, p2, p3, p4, p5, p6, p7⟩ := hp
  refine (show (findN (ρ.z.rl 0) (ρ.i .i64 1) ((ρ.i .i64 1000) + (1 : Int)).toNat = ((ρ.i .i64 1000) + (1 : Int)).toNat) ∧ (((ρ.z.rl 0).length - ((ρ.i .i64 1000) + (1 : Int)).toNat : Nat) < (ρ.z.rl 0).length - (ρ.i .i64 1000).toNat) from ?_)
  exact ⟨find_go (by omega) hi (by assumption), by omega⟩
theorem vcsfindIn0 : ∀ v ∈ vwfindIn 0, VC TTfindIn invfindIn msfindIn 0 (startF 19 cFindIn.pat (.lit true :: cFindIn.pre)) v := all_cons vcfindIn0_0 (all_nil)
theorem okfindIn0 : cfgOk (startF 19 cFindIn.pat (.lit true :: cFindIn.pre)) = true := by kernel_rfl
theorem sgfindIn0 : segL cFindIn.roms cFindIn (seg TTfindIn selfindIn 900 tmfindIn (startF 19 cFindIn.pat (.lit true :: cFindIn.pre))) = (true, codesR tmfindIn (views (seg TTfindIn selfindIn 900 tmfindIn (startF 19 cFindIn.pat (.lit true :: cFindIn.pre)))), vwfindIn 0) := by kernel_rfl
theorem vcsfindIn1 : ∀ v ∈ vwfindIn 1, VC TTfindIn invfindIn msfindIn 1 tfindIn1 v := all_cons vcfindIn1_0 (all_cons vcfindIn1_1 (all_cons vcfindIn1_2 (all_nil)))
theorem okfindIn1 : cfgOk tfindIn1 = true := by kernel_rfl
theorem sgfindIn1 : segL cFindIn.roms cFindIn (seg TTfindIn selfindIn 900 tmfindIn tfindIn1) = (true, codesR tmfindIn (views (seg TTfindIn selfindIn 900 tmfindIn tfindIn1)), vwfindIn 1) := by kernel_rfl
theorem lnfindIn0 : ∀ ρ, Known TTfindIn (startF 19 cFindIn.pat (.lit true :: cFindIn.pre)) ρ → invfindIn 0 ρ.lt → Holds ρ (leanOf (Cfg.pc (startF 19 cFindIn.pat (.lit true :: cFindIn.pre)))) := by
  intro ρ _ _
  exact (show Holds ρ [] from fun p hp => by cases hp)
theorem lnfindIn1 : ∀ ρ, Known TTfindIn tfindIn1 ρ → invfindIn 1 ρ.lt → Holds ρ (leanOf (Cfg.pc tfindIn1)) := by
  intro ρ _ _
  exact (show Holds ρ [] from fun p hp => by cases hp)
theorem told_findIn : Sx.Told wt.Φ cFindIn := by
  refine told_of (cs := [cQueueP]) (all_cons told_queueP (all_nil)) (sel := selfindIn) 900 tmfindIn invfindIn msfindIn vwfindIn 0 (pc0 := (.lit true :: cFindIn.pre)) (by kernel_rfl) (by kernel_rfl) (by kernel_rfl) post_findIn ?_ ?_ ?_ rfl (fun ρ _ h => h.cons (p := .lit true) (by simp only [BE.den])) (fun _ _ _ _ => trivial) ?_
  · intro k C h
    have := lk_mem h
    simp only [tmfindIn, List.mem_cons, Prod.mk.injEq, List.not_mem_nil, or_false] at this
    rcases this with ⟨rfl, rfl⟩ | ⟨rfl, rfl⟩
    · exact okfindIn0
    · exact okfindIn1
  · intro k C h
    have := lk_mem h
    simp only [tmfindIn, List.mem_cons, Prod.mk.injEq, List.not_mem_nil, or_false] at this
    rcases this with ⟨rfl, rfl⟩ | ⟨rfl, rfl⟩
    · exact sgfindIn0
    · exact sgfindIn1
  · intro k C h
    have := lk_mem h
    simp only [tmfindIn, List.mem_cons, Prod.mk.injEq, List.not_mem_nil, or_false] at this
    rcases this with ⟨rfl, rfl⟩ | ⟨rfl, rfl⟩
    · exact vcsfindIn0
    · exact vcsfindIn1
  · intro k C h
    have := lk_mem h
    simp only [tmfindIn, List.mem_cons, Prod.mk.injEq, List.not_mem_nil, or_false] at this
    rcases this with ⟨rfl, rfl⟩ | ⟨rfl, rfl⟩
    · exact lnfindIn0
    · exact lnfindIn1
noncomputable section
abbrev TTfindOut : Tab := T wt.Φ cFindOut.roms [cQueueP]
def tfindOut1 : Cfg := { top := ⟨60, over (opqS 10000 20) [(1, (SV.func (Go.Fn.func 61) [] [(SV.ptr 0 0)])), (8, (SV.rom 0 (IE.lit 0) (IE.len (LE.rom 0)) none)), (9, (SV.int .i64 (IE.len (LE.rom 0)))), (10, (SV.int .i64 (IE.var .i64 1000)))], ogt (loopTodo (bodyOf (T wt.Φ [] []) 60) 0), [], false, none⟩, rest := [⟨19, over (opqS 30000 14) [], ogt (callTodo (bodyOf (T wt.Φ [] []) 19) 3 [2, 3, 4, 5, 6]), [], false, none⟩], heap := [(0, .cells [(SV.int .i64 (IE.var .i64 1))] 3)], next := 1, pc := .lit true :: ([] ++ [(BE.le (IE.len (LE.rom 0)) (IE.fn .i64 2 (AL.lst (LE.rom 0) (AL.int .i64 (IE.var .i64 1) AL.nil)))), (BE.fn 4 (AL.lst (LE.rom 0) AL.nil)), (BE.le (IE.len (LE.rom 0)) (IE.lit 1000)), (BE.le (IE.lit 0) (IE.var .i64 1000)), (BE.le (IE.var .i64 1000) (IE.len (LE.rom 0)))]) }
def tmfindOut : List (Nat × Cfg) := [(0, startF 19 cFindOut.pat (.lit true :: cFindOut.pre)), (1, tfindOut1)]
def selfindOut : Sel := [(60, 1, 1, 1)]
def wfindOut0_0 : VW := (VW.cut 1 [(BE.lit true), (BE.le (IE.len (LE.rom 0)) (IE.lit 1000)), (BE.fn 4 (AL.lst (LE.rom 0) AL.nil)), (BE.le (IE.len (LE.rom 0)) (IE.fn .i64 2 (AL.lst (LE.rom 0) (AL.int .i64 (IE.var .i64 1) AL.nil))))] (Sx.Sub.mk [(.i64, (1000, (IE.lit 0)))] [] [] [] [] []))
def vwfindOut0 : List VW := [wfindOut0_0]
def pcfindOut1_0 : List BE := [(BE.lit true), (BE.le (IE.len (LE.rom 0)) (IE.fn .i64 2 (AL.lst (LE.rom 0) (AL.int .i64 (IE.var .i64 1) AL.nil)))), (BE.fn 4 (AL.lst (LE.rom 0) AL.nil)), (BE.le (IE.len (LE.rom 0)) (IE.lit 1000)), (BE.le (IE.lit 0) (IE.var .i64 1000)), (BE.le (IE.var .i64 1000) (IE.len (LE.rom 0)))]
def pcfindOut1_1 : List BE := ((BE.not (BE.le (IE.len (LE.rom 0)) (IE.var .i64 1000))) :: pcfindOut1_0)
def wfindOut1_0 : VW := (VW.done ((BE.le (IE.len (LE.rom 0)) (IE.var .i64 1000)) :: pcfindOut1_0) (some []))
def wfindOut1_1 : VW := (VW.done ((BE.eq (IE.cel .i64 (LE.rom 0) (IE.var .i64 1000) 0) (IE.var .i64 1)) :: pcfindOut1_1) (some [(G.i (IE.lit 0) (IE.var .i64 1000)), (G.b (BE.lit false) (BE.lit true))]))
def wfindOut1_2 : VW := (VW.cut 1 ((BE.not (BE.eq (IE.cel .i64 (LE.rom 0) (IE.var .i64 1000) 0) (IE.var .i64 1))) :: pcfindOut1_1) (Sx.Sub.mk [(.i64, (1000, (IE.add (IE.var .i64 1000) (IE.lit 1))))] [] [] [] [] []))
def vwfindOut1 : List VW := [wfindOut1_0, wfindOut1_1, wfindOut1_2]
def vwfindOut : Nat → List VW
  | 0 => vwfindOut0
  | 1 => vwfindOut1
  | _ => []
end
def invfindOut : Nat → Lt → Prop
  | 1, l => findN (l.z.rl 0) (l.i .i64 1) (l.i .i64 1000).toNat = (l.i .i64 1000).toNat
  | _, _ => True
def msfindOut : Nat → Lt → Nat
  | 0, l => (l.z.rl 0).length + 1
  | 1, l => (l.z.rl 0).length - (l.i .i64 1000).toNat
  | _, _ => 0
theorem vcfindOut0_0 : VC TTfindOut invfindOut msfindOut 0 (startF 19 cFindOut.pat (.lit true :: cFindOut.pre)) wfindOut0_0 := by
  intro ρ kn hi hp
  have hF : ρ.z.F = wt.Φ := kn.F
  simp only [h_nil, h_cons, d_le, d_eq, d_not, d_var, d_lit, d_cel, d_leq, d_fn, d_and, d_iff, IE.den, LE.den, AL.den, lenV, true_and, and_true, hF, pi2, pi5, pi6, pi7, pb1, pb2, pb4, pl4, pl6, pl8] at hp
  obtain ⟨p1, p2, p3⟩ := hp
  refine (show (findN (ρ.z.rl 0) (ρ.i .i64 1) (0 : Int).toNat = (0 : Int).toNat) ∧ (((ρ.z.rl 0).length - (0 : Int).toNat : Nat) < (ρ.z.rl 0).length + 1) from ?_)
  exact ⟨rfl, by omega⟩
def ivfindOut1 (ρ : Rho) : Prop := findN (ρ.z.rl 0) (ρ.i .i64 1) (ρ.i .i64 1000).toNat = (ρ.i .i64 1000).toNat
theorem vcfindOut1_1 : VC TTfindOut invfindOut msfindOut 1 tfindOut1 wfindOut1_1 := by
  intro ρ kn hi hp
  have hi : ivfindOut1 ρ := hi
  unfold ivfindOut1 at hi
  have hF : ρ.z.F = wt.Φ := kn.F
  simp only [h_nil, h_cons, d_le, d_eq, d_not, d_var, d_lit, d_cel, d_leq, d_fn, d_and, d_iff, IE.den, LE.den, AL.den, lenV, true_and, and_true, pcfindOut1_1, pcfindOut1_0, hF, pi2, pi5, pi6, pi7, pb1, pb2, pb4, pl4, pl6, pl8] at hp
  obtain ⟨p1, p2, p3, p4, p5, p6, p7⟩ := hp
  refine all_cons (show (0 : Int) = (ρ.i .i64 1000) from ?_) (all_cons (show false = true from ?_) (all_nil))
  all_goals try simp only [hF, pi2, pi5, pi6, pi7, pb1, pb2, pb4, pl4, pl6, pl8]
  all_goals
    have b2 : findN (ρ.z.rl 0) (ρ.i .i64 1) (ρ.z.rl 0).length ≤ (ρ.z.rl 0).length := first_le _ _
    have c : clampK .i64 ((findN (ρ.z.rl 0) (ρ.i .i64 1) (ρ.z.rl 0).length : Nat) : Int) = ((findN (ρ.z.rl 0) (ρ.i .i64 1) (ρ.z.rl 0).length : Nat) : Int) := clampS (by omega) (by omega)
    simp only [c] at *
    first
      | (have e := find_hit (by omega) (by omega) hi (by assumption); omega)
      | (have e := find_miss (by omega) (by omega) (by omega) hi; omega)
theorem vcfindOut1_2 : VC TTfindOut invfindOut msfindOut 1 tfindOut1 wfindOut1_2 := by
  intro ρ kn hi hp
  have hi : ivfindOut1 ρ := hi
  unfold ivfindOut1 at hi
  have hF : ρ.z.F = wt.Φ := kn.F
  simp only [h_nil, h_cons, d_le, d_eq, d_not, d_var, d_lit, d_cel, d_leq, d_fn, d_and, d_iff, IE.den, LE.den, AL.den, lenV, true_and, and_true, pcfindOut1_1, pcfindOut1_0, hF, pi2, pi5, pi6, pi7, pb1, pb2, pb4, pl4, pl6, pl8] at hp
  obtain ⟨p1, p2, p3, p4, p5, p6, p7⟩ := hp
  refine (show (findN (ρ.z.rl 0) (ρ.i .i64 1) ((ρ.i .i64 1000) + (1 : Int)).toNat = ((ρ.i .i64 1000) + (1 : Int)).toNat) ∧ (((ρ.z.rl 0).length - ((ρ.i .i64 1000) + (1 : Int)).toNat : Nat) < (ρ.z.rl 0).length - (ρ.i .i64 1000).toNat) from ?_)
  exact ⟨find_go (by omega) hi (by assumption), by omega⟩
theorem vcsfindOut0 : ∀ v ∈ vwfindOut 0, VC TTfindOut invfindOut msfindOut 0 (startF 19 cFindOut.pat (.lit true :: cFindOut.pre)) v := all_cons vcfindOut0_0 (all_nil)
theorem okfindOut0 : cfgOk (startF 19 cFindOut.pat (.lit true :: cFindOut.pre)) = true := by kernel_rfl
theorem sgfindOut0 : segL cFindOut.roms cFindOut (seg TTfindOut selfindOut 900 tmfindOut (startF 19 cFindOut.pat (.lit true :: cFindOut.pre))) = (true, codesR tmfindOut (views (seg TTfindOut selfindOut 900 tmfindOut (startF 19 cFindOut.pat (.lit true :: cFindOut.pre)))), vwfindOut 0) := by kernel_rfl
theorem vcsfindOut1 : ∀ v ∈ vwfindOut 1, VC TTfindOut invfindOut msfindOut 1 tfindOut1 v := all_cons (fun _ _ _ _ => all_nil) (all_cons vcfindOut1_1 (all_cons vcfindOut1_2 (all_nil)))
theorem okfindOut1 : cfgOk tfindOut1 = true := by kernel_rfl
theorem sgfindOut1 : segL cFindOut.roms cFindOut (seg TTfindOut selfindOut 900 tmfindOut tfindOut1) = (true, codesR tmfindOut (views (seg TTfindOut selfindOut 900 tmfindOut tfindOut1)), vwfindOut 1) := by kernel_rfl
theorem lnfindOut0 : ∀ ρ, Known TTfindOut (startF 19 cFindOut.pat (.lit true :: cFindOut.pre)) ρ → invfindOut 0 ρ.lt → Holds ρ (leanOf (Cfg.pc (startF 19 cFindOut.pat (.lit true :: cFindOut.pre)))) := by
  intro ρ _ _
  exact (show Holds ρ [] from fun p hp => by cases hp)
theorem lnfindOut1 : ∀ ρ, Known TTfindOut tfindOut1 ρ → invfindOut 1 ρ.lt → Holds ρ (leanOf (Cfg.pc tfindOut1)) := by
  intro ρ _ _
  exact (show Holds ρ [] from fun p hp => by cases hp)
theorem told_findOut : Sx.Told wt.Φ cFindOut := by
  refine told_of (cs := [cQueueP]) (all_cons told_queueP (all_nil)) (sel := selfindOut) 900 tmfindOut invfindOut msfindOut vwfindOut 0 (pc0 := (.lit true :: cFindOut.pre)) (by kernel_rfl) (by kernel_rfl) (by kernel_rfl) (post_nil rfl) ?_ ?_ ?_ rfl (fun ρ _ h => h.cons (p := .lit true) (by simp only [BE.den])) (fun _ _ _ _ => trivial) ?_
  · intro k C h
    have := lk_mem h
    simp only [tmfindOut, List.mem_cons, Prod.mk.injEq, List.not_mem_nil, or_false] at this
    rcases this with ⟨rfl, rfl⟩ | ⟨rfl, rfl⟩
    · exact okfindOut0
    · exact okfindOut1
  · intro k C h
    have := lk_mem h
    simp only [tmfindOut, List.mem_cons, Prod.mk.injEq, List.not_mem_nil, or_false] at this
    rcases this with ⟨rfl, rfl⟩ | ⟨rfl, rfl⟩
    · exact sgfindOut0
    · exact sgfindOut1
  · intro k C h
    have := lk_mem h
    simp only [tmfindOut, List.mem_cons, Prod.mk.injEq, List.not_mem_nil, or_false] at this
    rcases this with ⟨rfl, rfl⟩ | ⟨rfl, rfl⟩
    · exact vcsfindOut0
    · exact vcsfindOut1
  · intro k C h
    have := lk_mem h
    simp only [tmfindOut, List.mem_cons, Prod.mk.injEq, List.not_mem_nil, or_false] at this
    rcases this with ⟨rfl, rfl⟩ | ⟨rfl, rfl⟩
    · exact lnfindOut0
    · exact lnfindOut1
theorem told_findNo : Sx.Told wt.Φ cFindNo := told_auto (cs := [cQueueP]) (all_cons told_queueP (all_nil)) 900 (by kernel_rfl) (by kernel_rfl) (by kernel_rfl) (post_nil rfl) (by kernel_rfl) (by kernel_rfl)
end Go.Proofs.YteblnjgghbclpaaDoor.wt
