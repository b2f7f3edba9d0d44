/- Layer octet: a list's bytes, told. No condition. -/
import Derived.Test.YtjgkaimgocnkmaaKa
set_option linter.unusedVariables false
set_option linter.unusedSimpArgs false
set_option linter.deprecated false
namespace Go.Proofs.Ytjgkaimgocnkmaa.oct
open Go Go.Proofs.Ytjgkaimgocnkmaa.Sx
noncomputable section
abbrev TTfewT : Tab := T oct.Φ cFewT.roms []
def tfewT1 : Cfg := { top := ⟨30, over (opqS 10000 34) [(0, (SV.rom 0 (IE.lit 0) (IE.len (LE.rom 0)) none)), (3, (SV.int .i64 (IE.var .i64 1000))), (4, (SV.int .i64 (IE.var .i64 1001)))], ogt (loopTodo (bodyOf (T oct.Φ [] []) 30) 0), [], false, none⟩, rest := [], heap := [], next := 1, pc := .lit true :: ([] ++ [(BE.fn 2 (AL.lst (LE.rom 0) AL.nil)), (BE.le (IE.lit 0) (IE.var .i64 1000)), (BE.le (IE.lit 0) (IE.var .i64 1001)), (BE.le (IE.var .i64 1001) (IE.len (LE.rom 0)))]) }
def tmfewT : List (Nat × Cfg) := [(0, startF 30 cFewT.pat (.lit true :: cFewT.pre)), (1, tfewT1)]
def selfewT : Sel := [(30, 1, 0, 1)]
def wfewT0_0 : VW := (VW.cut 1 [(BE.lit true), (BE.fn 2 (AL.lst (LE.rom 0) AL.nil))] (Sx.Sub.mk [(.i64, (1001, (IE.lit 0))), (.i64, (1000, (IE.lit 0)))] [] [] [] [] []))
def vwfewT0 : List VW := [wfewT0_0]
def pcfewT1_0 : List BE := [(BE.lit true), (BE.fn 2 (AL.lst (LE.rom 0) AL.nil)), (BE.le (IE.lit 0) (IE.var .i64 1000)), (BE.le (IE.lit 0) (IE.var .i64 1001)), (BE.le (IE.var .i64 1001) (IE.len (LE.rom 0)))]
def pcfewT1_1 : List BE := ((BE.le (IE.len (LE.rom 0)) (IE.var .i64 1001)) :: pcfewT1_0)
def pcfewT1_2 : List BE := ((BE.not (BE.le (IE.len (LE.rom 0)) (IE.var .i64 1001))) :: pcfewT1_0)
def pcfewT1_3 : List BE := ((BE.le (IE.var .i64 1001) (IE.lit 200)) :: pcfewT1_2)
def pcfewT1_4 : List BE := ((BE.le (IE.var .i64 1000) (IE.lit 3000)) :: pcfewT1_3)
def pcfewT1_5 : List BE := ((BE.not (BE.le (IE.var .i64 1000) (IE.lit 3000))) :: pcfewT1_3)
def wfewT1_0 : VW := (VW.done ((BE.le (IE.len (LE.rom 0)) (IE.lit 200)) :: pcfewT1_1) (some [(G.b (BE.lit true) (BE.le (IE.var .i64 1000) (IE.lit 3000)))]))
def wfewT1_1 : VW := (VW.done ((BE.not (BE.le (IE.len (LE.rom 0)) (IE.lit 200))) :: pcfewT1_1) (some [(G.b (BE.lit true) (BE.lit false))]))
def wfewT1_2 : VW := (VW.cut 1 ((BE.le (IE.len (LE.str (LE.rom 0) (IE.var .i64 1001) 0)) (IE.lit 3001)) :: pcfewT1_4) (Sx.Sub.mk [(.i64, (1001, (IE.add (IE.var .i64 1001) (IE.lit 1)))), (.i64, (1000, (IE.add (IE.var .i64 1000) (IE.len (LE.str (LE.rom 0) (IE.var .i64 1001) 0)))))] [] [] [] [] []))
def wfewT1_3 : VW := (VW.cut 1 ((BE.not (BE.le (IE.len (LE.str (LE.rom 0) (IE.var .i64 1001) 0)) (IE.lit 3001))) :: pcfewT1_4) (Sx.Sub.mk [(.i64, (1001, (IE.add (IE.var .i64 1001) (IE.lit 1)))), (.i64, (1000, (IE.add (IE.var .i64 1000) (IE.lit 3001))))] [] [] [] [] []))
def wfewT1_4 : VW := (VW.done ((BE.le (IE.len (LE.rom 0)) (IE.lit 200)) :: pcfewT1_5) (some [(G.b (BE.lit true) (BE.le (IE.var .i64 1000) (IE.lit 3000)))]))
def wfewT1_5 : VW := (VW.done ((BE.not (BE.le (IE.len (LE.rom 0)) (IE.lit 200))) :: pcfewT1_5) (some [(G.b (BE.lit true) (BE.lit false))]))
def wfewT1_6 : VW := (VW.done ((BE.not (BE.le (IE.var .i64 1001) (IE.lit 200))) :: pcfewT1_2) (some [(G.b (BE.lit true) (BE.lit false))]))
def vwfewT1 : List VW := [wfewT1_0, wfewT1_1, wfewT1_2, wfewT1_3, wfewT1_4, wfewT1_5, wfewT1_6]
def vwfewT : Nat → List VW
  | 0 => vwfewT0
  | 1 => vwfewT1
  | _ => []
end
def invfewT : Nat → Lt → Prop
  | 1, l => (l.i .i64 1000) = (sumT (l.z.rl 0) (l.i .i64 1001).toNat : Int)
  | _, _ => True
def msfewT : Nat → Lt → Nat
  | 0, l => (l.z.rl 0).length + 1
  | 1, l => (l.z.rl 0).length - (l.i .i64 1001).toNat
  | _, _ => 0
theorem vcfewT0_0 : VC TTfewT invfewT msfewT 0 (startF 30 cFewT.pat (.lit true :: cFewT.pre)) wfewT0_0 := by
  intro ρ kn hi hp
  have hF : ρ.z.F = oct.Φ := kn.F
  simp only [h_nil, h_cons, d_le, d_eq, d_not, d_var, d_lit, d_cel, d_leq, d_fn, d_and, d_iff, IE.den, LE.den, AL.den, lenV, true_and, and_true, hF, pi2, pi3, pi4, pi5, pi6, pi7, pl1, pi8, pi9, pl3, pi10, pi11, pb1, pl2, pb2, pl5] at hp
  have p1 := hp
  refine (show ((0 : Int) = (sumT (ρ.z.rl 0) (0 : Int).toNat : Int)) ∧ (((ρ.z.rl 0).length - (0 : Int).toNat : Nat) < (ρ.z.rl 0).length + 1) from ?_)
  exact ⟨rfl, by omega⟩
def ivfewT1 (ρ : Rho) : Prop := (ρ.i .i64 1000) = (sumT (ρ.z.rl 0) (ρ.i .i64 1001).toNat : Int)
theorem vcgfewT1_1 : VC TTfewT invfewT msfewT 1 tfewT1 wfewT1_1 ∧ VC TTfewT invfewT msfewT 1 tfewT1 wfewT1_5 ∧ VC TTfewT invfewT msfewT 1 tfewT1 wfewT1_6 := by
  refine ⟨?_, ?_, ?_⟩
  all_goals
    intro ρ kn hi hp
    have hi : ivfewT1 ρ := hi
    unfold ivfewT1 at hi
    have hF : ρ.z.F = oct.Φ := kn.F
    simp only [h_nil, h_cons, d_le, d_eq, d_not, d_var, d_lit, d_cel, d_leq, d_fn, d_and, d_iff, IE.den, LE.den, AL.den, lenV, true_and, and_true, pcfewT1_1, pcfewT1_0, pcfewT1_5, pcfewT1_3, pcfewT1_2, hF, pi2, pi3, pi4, pi5, pi6, pi7, pl1, pi8, pi9, pl3, pi10, pi11, pb1, pl2, pb2, pl5] at hp
    have p1 := And.left hp
    replace hp := And.right hp
    repeat (have _ := And.left hp; replace hp := And.right hp)
    exfalso
    try simp only [tex_z (l := ρ.z.rl 0) (i := ρ.i .i64 1001) (by omega)] at *
    have f := few_iff (l := ρ.z.rl 0)
    have m := fun h => sum_le (l := ρ.z.rl 0) (k := (ρ.i .i64 1001).toNat) (n := (ρ.z.rl 0).length) h
    have hT : fewT (ρ.z.rl 0) = true := by assumption
    have h2 := f.1 hT
    have m2 := m (by omega)
    first
      | omega
      | exact (decide_eq_true (by omega)).symm
theorem vcfewT1_0 : VC TTfewT invfewT msfewT 1 tfewT1 wfewT1_0 := by
  intro ρ kn hi hp
  have hi : ivfewT1 ρ := hi
  unfold ivfewT1 at hi
  have hF : ρ.z.F = oct.Φ := kn.F
  simp only [h_nil, h_cons, d_le, d_eq, d_not, d_var, d_lit, d_cel, d_leq, d_fn, d_and, d_iff, IE.den, LE.den, AL.den, lenV, true_and, and_true, pcfewT1_1, pcfewT1_0, hF, pi2, pi3, pi4, pi5, pi6, pi7, pl1, pi8, pi9, pl3, pi10, pi11, pb1, pl2, pb2, pl5] at hp
  obtain ⟨p1, p2, p3, p4, p5, p6⟩ := hp
  refine all_cons (show true = (decide ((ρ.i .i64 1000) ≤ (3000 : Int))) from ?_) (all_nil)
  all_goals try simp only [hF, pi2, pi3, pi4, pi5, pi6, pi7, pl1, pi8, pi9, pl3, pi10, pi11, pb1, pl2, pb2, pl5]
  try simp only [tex_z (l := ρ.z.rl 0) (i := ρ.i .i64 1001) (by omega)] at *
  have f := few_iff (l := ρ.z.rl 0)
  have m := fun h => sum_le (l := ρ.z.rl 0) (k := (ρ.i .i64 1001).toNat) (n := (ρ.z.rl 0).length) h
  have hT : fewT (ρ.z.rl 0) = true := by assumption
  have h2 := f.1 hT
  have m2 := m (by omega)
  first
    | omega
    | exact (decide_eq_true (by omega)).symm
theorem vcfewT1_2 : VC TTfewT invfewT msfewT 1 tfewT1 wfewT1_2 := by
  intro ρ kn hi hp
  have hi : ivfewT1 ρ := hi
  unfold ivfewT1 at hi
  have hF : ρ.z.F = oct.Φ := kn.F
  simp only [h_nil, h_cons, d_le, d_eq, d_not, d_var, d_lit, d_cel, d_leq, d_fn, d_and, d_iff, IE.den, LE.den, AL.den, lenV, true_and, and_true, pcfewT1_4, pcfewT1_3, pcfewT1_2, pcfewT1_0, hF, pi2, pi3, pi4, pi5, pi6, pi7, pl1, pi8, pi9, pl3, pi10, pi11, pb1, pl2, pb2, pl5] at hp
  obtain ⟨p1, p2, p3, p4, p5, p6, p7, p8⟩ := hp
  refine (show (((ρ.i .i64 1000) + (((strV (celV (ρ.z.rl 0) (ρ.i .i64 1001) 0)).length : Nat) : Int)) = (sumT (ρ.z.rl 0) ((ρ.i .i64 1001) + (1 : Int)).toNat : Int)) ∧ (((ρ.z.rl 0).length - ((ρ.i .i64 1001) + (1 : Int)).toNat : Nat) < (ρ.z.rl 0).length - (ρ.i .i64 1001).toNat) from ?_)
  try simp only [tex_z (l := ρ.z.rl 0) (i := ρ.i .i64 1001) (by omega)] at *
  refine ⟨?_, by omega⟩
  rw [at_s (by omega), sumT, hi]
  omega
theorem vcfewT1_3 : VC TTfewT invfewT msfewT 1 tfewT1 wfewT1_3 := by
  intro ρ kn hi hp
  have hi : ivfewT1 ρ := hi
  unfold ivfewT1 at hi
  have hF : ρ.z.F = oct.Φ := kn.F
  simp only [h_nil, h_cons, d_le, d_eq, d_not, d_var, d_lit, d_cel, d_leq, d_fn, d_and, d_iff, IE.den, LE.den, AL.den, lenV, true_and, and_true, pcfewT1_4, pcfewT1_3, pcfewT1_2, pcfewT1_0, hF, pi2, pi3, pi4, pi5, pi6, pi7, pl1, pi8, pi9, pl3, pi10, pi11, pb1, pl2, pb2, pl5] at hp
  obtain ⟨p1, p2, p3, p4, p5, p6, p7, p8⟩ := hp
  refine (show (((ρ.i .i64 1000) + (3001 : Int)) = (sumT (ρ.z.rl 0) ((ρ.i .i64 1001) + (1 : Int)).toNat : Int)) ∧ (((ρ.z.rl 0).length - ((ρ.i .i64 1001) + (1 : Int)).toNat : Nat) < (ρ.z.rl 0).length - (ρ.i .i64 1001).toNat) from ?_)
  try simp only [tex_z (l := ρ.z.rl 0) (i := ρ.i .i64 1001) (by omega)] at *
  refine ⟨?_, by omega⟩
  rw [at_s (by omega), sumT, hi]
  omega
theorem vcfewT1_4 : VC TTfewT invfewT msfewT 1 tfewT1 wfewT1_4 := by
  intro ρ kn hi hp
  have hi : ivfewT1 ρ := hi
  unfold ivfewT1 at hi
  have hF : ρ.z.F = oct.Φ := kn.F
  simp only [h_nil, h_cons, d_le, d_eq, d_not, d_var, d_lit, d_cel, d_leq, d_fn, d_and, d_iff, IE.den, LE.den, AL.den, lenV, true_and, and_true, pcfewT1_5, pcfewT1_3, pcfewT1_2, pcfewT1_0, hF, pi2, pi3, pi4, pi5, pi6, pi7, pl1, pi8, pi9, pl3, pi10, pi11, pb1, pl2, pb2, pl5] at hp
  obtain ⟨p1, p2, p3, p4, p5, p6, p7, p8⟩ := hp
  refine all_cons (show true = (decide ((ρ.i .i64 1000) ≤ (3000 : Int))) from ?_) (all_nil)
  all_goals try simp only [hF, pi2, pi3, pi4, pi5, pi6, pi7, pl1, pi8, pi9, pl3, pi10, pi11, pb1, pl2, pb2, pl5]
  try simp only [tex_z (l := ρ.z.rl 0) (i := ρ.i .i64 1001) (by omega)] at *
  have f := few_iff (l := ρ.z.rl 0)
  have m := fun h => sum_le (l := ρ.z.rl 0) (k := (ρ.i .i64 1001).toNat) (n := (ρ.z.rl 0).length) h
  have hT : fewT (ρ.z.rl 0) = true := by assumption
  have h2 := f.1 hT
  have m2 := m (by omega)
  first
    | omega
    | exact (decide_eq_true (by omega)).symm
theorem vcsfewT0 : ∀ v ∈ vwfewT 0, VC TTfewT invfewT msfewT 0 (startF 30 cFewT.pat (.lit true :: cFewT.pre)) v := all_cons vcfewT0_0 (all_nil)
theorem okfewT0 : cfgOk (startF 30 cFewT.pat (.lit true :: cFewT.pre)) = true := by kernel_rfl
theorem sgfewT0 : segL cFewT.roms cFewT (seg TTfewT selfewT 600 tmfewT (startF 30 cFewT.pat (.lit true :: cFewT.pre))) = (true, codesR tmfewT (views (seg TTfewT selfewT 600 tmfewT (startF 30 cFewT.pat (.lit true :: cFewT.pre)))), vwfewT 0) := by kernel_rfl
theorem vcsfewT1 : ∀ v ∈ vwfewT 1, VC TTfewT invfewT msfewT 1 tfewT1 v := all_cons vcfewT1_0 (all_cons vcgfewT1_1.1 (all_cons vcfewT1_2 (all_cons vcfewT1_3 (all_cons vcfewT1_4 (all_cons vcgfewT1_1.2.1 (all_cons vcgfewT1_1.2.2 (all_nil)))))))
theorem okfewT1 : cfgOk tfewT1 = true := by kernel_rfl
theorem sgfewT1 : segL cFewT.roms cFewT (seg TTfewT selfewT 600 tmfewT tfewT1) = (true, codesR tmfewT (views (seg TTfewT selfewT 600 tmfewT tfewT1)), vwfewT 1) := by kernel_rfl
theorem lnfewT0 : ∀ ρ, Known TTfewT (startF 30 cFewT.pat (.lit true :: cFewT.pre)) ρ → invfewT 0 ρ.lt → Holds ρ (leanOf (Cfg.pc (startF 30 cFewT.pat (.lit true :: cFewT.pre)))) := by
  intro ρ _ _
  exact (show Holds ρ [] from fun p hp => by cases hp)
theorem lnfewT1 : ∀ ρ, Known TTfewT tfewT1 ρ → invfewT 1 ρ.lt → Holds ρ (leanOf (Cfg.pc tfewT1)) := by
  intro ρ _ _
  exact (show Holds ρ [] from fun p hp => by cases hp)
theorem told_fewT : Sx.Told oct.Φ cFewT := by
  refine told_of (cs := []) (all_nil) (sel := selfewT) 600 tmfewT invfewT msfewT vwfewT 0 (pc0 := (.lit true :: cFewT.pre)) (by kernel_rfl) (by kernel_rfl) (by kernel_rfl) post_fewT ?_ ?_ ?_ rfl (fun ρ _ h => h.cons (p := .lit true) (by simp only [BE.den])) (fun _ _ _ _ => trivial) ?_
  · intro k C h
    have := lk_mem h
    simp only [tmfewT, List.mem_cons, Prod.mk.injEq, List.not_mem_nil, or_false] at this
    rcases this with ⟨rfl, rfl⟩ | ⟨rfl, rfl⟩
    · exact okfewT0
    · exact okfewT1
  · intro k C h
    have := lk_mem h
    simp only [tmfewT, List.mem_cons, Prod.mk.injEq, List.not_mem_nil, or_false] at this
    rcases this with ⟨rfl, rfl⟩ | ⟨rfl, rfl⟩
    · exact sgfewT0
    · exact sgfewT1
  · intro k C h
    have := lk_mem h
    simp only [tmfewT, List.mem_cons, Prod.mk.injEq, List.not_mem_nil, or_false] at this
    rcases this with ⟨rfl, rfl⟩ | ⟨rfl, rfl⟩
    · exact vcsfewT0
    · exact vcsfewT1
  · intro k C h
    have := lk_mem h
    simp only [tmfewT, List.mem_cons, Prod.mk.injEq, List.not_mem_nil, or_false] at this
    rcases this with ⟨rfl, rfl⟩ | ⟨rfl, rfl⟩
    · exact lnfewT0
    · exact lnfewT1
noncomputable section
abbrev TTfewF : Tab := T oct.Φ cFewF.roms []
def tfewF1 : Cfg := { top := ⟨30, over (opqS 10000 34) [(0, (SV.rom 0 (IE.lit 0) (IE.len (LE.rom 0)) none)), (3, (SV.int .i64 (IE.var .i64 1000))), (4, (SV.int .i64 (IE.var .i64 1001)))], ogt (loopTodo (bodyOf (T oct.Φ [] []) 30) 0), [], false, none⟩, rest := [], heap := [], next := 1, pc := .lit true :: ([] ++ [(BE.not (BE.fn 2 (AL.lst (LE.rom 0) AL.nil))), (BE.le (IE.lit 0) (IE.var .i64 1000)), (BE.le (IE.lit 0) (IE.var .i64 1001)), (BE.le (IE.var .i64 1001) (IE.len (LE.rom 0)))]) }
def tmfewF : List (Nat × Cfg) := [(0, startF 30 cFewF.pat (.lit true :: cFewF.pre)), (1, tfewF1)]
def selfewF : Sel := [(30, 1, 0, 1)]
def wfewF0_0 : VW := (VW.cut 1 [(BE.lit true), (BE.not (BE.fn 2 (AL.lst (LE.rom 0) AL.nil)))] (Sx.Sub.mk [(.i64, (1001, (IE.lit 0))), (.i64, (1000, (IE.lit 0)))] [] [] [] [] []))
def vwfewF0 : List VW := [wfewF0_0]
def pcfewF1_0 : List BE := [(BE.lit true), (BE.not (BE.fn 2 (AL.lst (LE.rom 0) AL.nil))), (BE.le (IE.lit 0) (IE.var .i64 1000)), (BE.le (IE.lit 0) (IE.var .i64 1001)), (BE.le (IE.var .i64 1001) (IE.len (LE.rom 0)))]
def pcfewF1_1 : List BE := ((BE.le (IE.len (LE.rom 0)) (IE.var .i64 1001)) :: pcfewF1_0)
def pcfewF1_2 : List BE := ((BE.not (BE.le (IE.len (LE.rom 0)) (IE.var .i64 1001))) :: pcfewF1_0)
def pcfewF1_3 : List BE := ((BE.le (IE.var .i64 1001) (IE.lit 200)) :: pcfewF1_2)
def pcfewF1_4 : List BE := ((BE.le (IE.var .i64 1000) (IE.lit 3000)) :: pcfewF1_3)
def pcfewF1_5 : List BE := ((BE.not (BE.le (IE.var .i64 1000) (IE.lit 3000))) :: pcfewF1_3)
def wfewF1_0 : VW := (VW.done ((BE.le (IE.len (LE.rom 0)) (IE.lit 200)) :: pcfewF1_1) (some [(G.b (BE.lit false) (BE.le (IE.var .i64 1000) (IE.lit 3000)))]))
def wfewF1_1 : VW := (VW.done ((BE.not (BE.le (IE.len (LE.rom 0)) (IE.lit 200))) :: pcfewF1_1) (some []))
def wfewF1_2 : VW := (VW.cut 1 ((BE.le (IE.len (LE.str (LE.rom 0) (IE.var .i64 1001) 0)) (IE.lit 3001)) :: pcfewF1_4) (Sx.Sub.mk [(.i64, (1001, (IE.add (IE.var .i64 1001) (IE.lit 1)))), (.i64, (1000, (IE.add (IE.var .i64 1000) (IE.len (LE.str (LE.rom 0) (IE.var .i64 1001) 0)))))] [] [] [] [] []))
def wfewF1_3 : VW := (VW.cut 1 ((BE.not (BE.le (IE.len (LE.str (LE.rom 0) (IE.var .i64 1001) 0)) (IE.lit 3001))) :: pcfewF1_4) (Sx.Sub.mk [(.i64, (1001, (IE.add (IE.var .i64 1001) (IE.lit 1)))), (.i64, (1000, (IE.add (IE.var .i64 1000) (IE.lit 3001))))] [] [] [] [] []))
def wfewF1_4 : VW := (VW.done ((BE.le (IE.len (LE.rom 0)) (IE.lit 200)) :: pcfewF1_5) (some []))
def wfewF1_5 : VW := (VW.done ((BE.not (BE.le (IE.len (LE.rom 0)) (IE.lit 200))) :: pcfewF1_5) (some []))
def wfewF1_6 : VW := (VW.done ((BE.not (BE.le (IE.var .i64 1001) (IE.lit 200))) :: pcfewF1_2) (some []))
def vwfewF1 : List VW := [wfewF1_0, wfewF1_1, wfewF1_2, wfewF1_3, wfewF1_4, wfewF1_5, wfewF1_6]
def vwfewF : Nat → List VW
  | 0 => vwfewF0
  | 1 => vwfewF1
  | _ => []
end
def invfewF : Nat → Lt → Prop
  | 1, l => (l.i .i64 1000) = (sumT (l.z.rl 0) (l.i .i64 1001).toNat : Int)
  | _, _ => True
def msfewF : Nat → Lt → Nat
  | 0, l => (l.z.rl 0).length + 1
  | 1, l => (l.z.rl 0).length - (l.i .i64 1001).toNat
  | _, _ => 0
theorem vcfewF0_0 : VC TTfewF invfewF msfewF 0 (startF 30 cFewF.pat (.lit true :: cFewF.pre)) wfewF0_0 := by
  intro ρ kn hi hp
  have hF : ρ.z.F = oct.Φ := kn.F
  simp only [h_nil, h_cons, d_le, d_eq, d_not, d_var, d_lit, d_cel, d_leq, d_fn, d_and, d_iff, IE.den, LE.den, AL.den, lenV, true_and, and_true, hF, pi2, pi3, pi4, pi5, pi6, pi7, pl1, pi8, pi9, pl3, pi10, pi11, pb1, pl2, pb2, pl5] at hp
  have p1 := hp
  refine (show ((0 : Int) = (sumT (ρ.z.rl 0) (0 : Int).toNat : Int)) ∧ (((ρ.z.rl 0).length - (0 : Int).toNat : Nat) < (ρ.z.rl 0).length + 1) from ?_)
  exact ⟨rfl, by omega⟩
def ivfewF1 (ρ : Rho) : Prop := (ρ.i .i64 1000) = (sumT (ρ.z.rl 0) (ρ.i .i64 1001).toNat : Int)
theorem vcfewF1_0 : VC TTfewF invfewF msfewF 1 tfewF1 wfewF1_0 := by
  intro ρ kn hi hp
  have hi : ivfewF1 ρ := hi
  unfold ivfewF1 at hi
  have hF : ρ.z.F = oct.Φ := kn.F
  simp only [h_nil, h_cons, d_le, d_eq, d_not, d_var, d_lit, d_cel, d_leq, d_fn, d_and, d_iff, IE.den, LE.den, AL.den, lenV, true_and, and_true, pcfewF1_1, pcfewF1_0, hF, pi2, pi3, pi4, pi5, pi6, pi7, pl1, pi8, pi9, pl3, pi10, pi11, pb1, pl2, pb2, pl5] at hp
  obtain ⟨p1, p2, p3, p4, p5, p6⟩ := hp
  refine all_cons (show false = (decide ((ρ.i .i64 1000) ≤ (3000 : Int))) from ?_) (all_nil)
  all_goals try simp only [hF, pi2, pi3, pi4, pi5, pi6, pi7, pl1, pi8, pi9, pl3, pi10, pi11, pb1, pl2, pb2, pl5]
  try simp only [tex_z (l := ρ.z.rl 0) (i := ρ.i .i64 1001) (by omega)] at *
  have f := few_iff (l := ρ.z.rl 0)
  have m := fun h => sum_le (l := ρ.z.rl 0) (k := (ρ.i .i64 1001).toNat) (n := (ρ.z.rl 0).length) h
  have hT : ¬ fewT (ρ.z.rl 0) = true := by assumption
  first
    | (refine (decide_eq_false fun c => ?_).symm
       have e : (ρ.i .i64 1001).toNat = (ρ.z.rl 0).length := by omega
       rw [e] at hi
       exact hT (f.2 (by omega)))
    | (by_cases c : (ρ.i .i64 1001).toNat = (ρ.z.rl 0).length
       · rw [c] at hi
         exact hT (f.2 (by omega))
       · exact hT (f.2 (by omega)))
theorem vcfewF1_2 : VC TTfewF invfewF msfewF 1 tfewF1 wfewF1_2 := by
  intro ρ kn hi hp
  have hi : ivfewF1 ρ := hi
  unfold ivfewF1 at hi
  have hF : ρ.z.F = oct.Φ := kn.F
  simp only [h_nil, h_cons, d_le, d_eq, d_not, d_var, d_lit, d_cel, d_leq, d_fn, d_and, d_iff, IE.den, LE.den, AL.den, lenV, true_and, and_true, pcfewF1_4, pcfewF1_3, pcfewF1_2, pcfewF1_0, hF, pi2, pi3, pi4, pi5, pi6, pi7, pl1, pi8, pi9, pl3, pi10, pi11, pb1, pl2, pb2, pl5] at hp
  obtain ⟨p1, p2, p3, p4, p5, p6, p7, p8⟩ := hp
  refine (show (((ρ.i .i64 1000) + (((strV (celV (ρ.z.rl 0) (ρ.i .i64 1001) 0)).length : Nat) : Int)) = (sumT (ρ.z.rl 0) ((ρ.i .i64 1001) + (1 : Int)).toNat : Int)) ∧ (((ρ.z.rl 0).length - ((ρ.i .i64 1001) + (1 : Int)).toNat : Nat) < (ρ.z.rl 0).length - (ρ.i .i64 1001).toNat) from ?_)
  try simp only [tex_z (l := ρ.z.rl 0) (i := ρ.i .i64 1001) (by omega)] at *
  refine ⟨?_, by omega⟩
  rw [at_s (by omega), sumT, hi]
  omega
theorem vcfewF1_3 : VC TTfewF invfewF msfewF 1 tfewF1 wfewF1_3 := by
  intro ρ kn hi hp
  have hi : ivfewF1 ρ := hi
  unfold ivfewF1 at hi
  have hF : ρ.z.F = oct.Φ := kn.F
  simp only [h_nil, h_cons, d_le, d_eq, d_not, d_var, d_lit, d_cel, d_leq, d_fn, d_and, d_iff, IE.den, LE.den, AL.den, lenV, true_and, and_true, pcfewF1_4, pcfewF1_3, pcfewF1_2, pcfewF1_0, hF, pi2, pi3, pi4, pi5, pi6, pi7, pl1, pi8, pi9, pl3, pi10, pi11, pb1, pl2, pb2, pl5] at hp
  obtain ⟨p1, p2, p3, p4, p5, p6, p7, p8⟩ := hp
  refine (show (((ρ.i .i64 1000) + (3001 : Int)) = (sumT (ρ.z.rl 0) ((ρ.i .i64 1001) + (1 : Int)).toNat : Int)) ∧ (((ρ.z.rl 0).length - ((ρ.i .i64 1001) + (1 : Int)).toNat : Nat) < (ρ.z.rl 0).length - (ρ.i .i64 1001).toNat) from ?_)
  try simp only [tex_z (l := ρ.z.rl 0) (i := ρ.i .i64 1001) (by omega)] at *
  refine ⟨?_, by omega⟩
  rw [at_s (by omega), sumT, hi]
  omega
theorem vcsfewF0 : ∀ v ∈ vwfewF 0, VC TTfewF invfewF msfewF 0 (startF 30 cFewF.pat (.lit true :: cFewF.pre)) v := all_cons vcfewF0_0 (all_nil)
theorem okfewF0 : cfgOk (startF 30 cFewF.pat (.lit true :: cFewF.pre)) = true := by kernel_rfl
theorem sgfewF0 : segL cFewF.roms cFewF (seg TTfewF selfewF 600 tmfewF (startF 30 cFewF.pat (.lit true :: cFewF.pre))) = (true, codesR tmfewF (views (seg TTfewF selfewF 600 tmfewF (startF 30 cFewF.pat (.lit true :: cFewF.pre)))), vwfewF 0) := by kernel_rfl
theorem vcsfewF1 : ∀ v ∈ vwfewF 1, VC TTfewF invfewF msfewF 1 tfewF1 v := all_cons vcfewF1_0 (all_cons (fun _ _ _ _ => all_nil) (all_cons vcfewF1_2 (all_cons vcfewF1_3 (all_cons (fun _ _ _ _ => all_nil) (all_cons (fun _ _ _ _ => all_nil) (all_cons (fun _ _ _ _ => all_nil) (all_nil)))))))
theorem okfewF1 : cfgOk tfewF1 = true := by kernel_rfl
theorem sgfewF1 : segL cFewF.roms cFewF (seg TTfewF selfewF 600 tmfewF tfewF1) = (true, codesR tmfewF (views (seg TTfewF selfewF 600 tmfewF tfewF1)), vwfewF 1) := by kernel_rfl
theorem lnfewF0 : ∀ ρ, Known TTfewF (startF 30 cFewF.pat (.lit true :: cFewF.pre)) ρ → invfewF 0 ρ.lt → Holds ρ (leanOf (Cfg.pc (startF 30 cFewF.pat (.lit true :: cFewF.pre)))) := by
  intro ρ _ _
  exact (show Holds ρ [] from fun p hp => by cases hp)
theorem lnfewF1 : ∀ ρ, Known TTfewF tfewF1 ρ → invfewF 1 ρ.lt → Holds ρ (leanOf (Cfg.pc tfewF1)) := by
  intro ρ _ _
  exact (show Holds ρ [] from fun p hp => by cases hp)
theorem told_fewF : Sx.Told oct.Φ cFewF := by
  refine told_of (cs := []) (all_nil) (sel := selfewF) 600 tmfewF invfewF msfewF vwfewF 0 (pc0 := (.lit true :: cFewF.pre)) (by kernel_rfl) (by kernel_rfl) (by kernel_rfl) (post_nil rfl) ?_ ?_ ?_ rfl (fun ρ _ h => h.cons (p := .lit true) (by simp only [BE.den])) (fun _ _ _ _ => trivial) ?_
  · intro k C h
    have := lk_mem h
    simp only [tmfewF, List.mem_cons, Prod.mk.injEq, List.not_mem_nil, or_false] at this
    rcases this with ⟨rfl, rfl⟩ | ⟨rfl, rfl⟩
    · exact okfewF0
    · exact okfewF1
  · intro k C h
    have := lk_mem h
    simp only [tmfewF, List.mem_cons, Prod.mk.injEq, List.not_mem_nil, or_false] at this
    rcases this with ⟨rfl, rfl⟩ | ⟨rfl, rfl⟩
    · exact sgfewF0
    · exact sgfewF1
  · intro k C h
    have := lk_mem h
    simp only [tmfewF, List.mem_cons, Prod.mk.injEq, List.not_mem_nil, or_false] at this
    rcases this with ⟨rfl, rfl⟩ | ⟨rfl, rfl⟩
    · exact vcsfewF0
    · exact vcsfewF1
  · intro k C h
    have := lk_mem h
    simp only [tmfewF, List.mem_cons, Prod.mk.injEq, List.not_mem_nil, or_false] at this
    rcases this with ⟨rfl, rfl⟩ | ⟨rfl, rfl⟩
    · exact lnfewF0
    · exact lnfewF1
noncomputable section
abbrev TTrtext3 : Tab := T oct.Φ cRText3.roms [cRNumber]
def pcrtext3_0 : List BE := [(BE.le (IE.lit 1) (IE.len (LE.fn 1 (AL.int .u64 (IE.len (LE.var 1)) AL.nil)))), (BE.le (IE.len (LE.fn 1 (AL.int .u64 (IE.len (LE.var 1)) AL.nil))) (IE.lit 10)), (BE.lit true), (BE.le (IE.len (LE.var 1)) (IE.lit 3000))]
def wrtext3_0 : VW := (VW.done ((BE.le (IE.add (IE.len (LE.fn 1 (AL.int .u64 (IE.len (LE.var 1)) AL.nil))) (IE.len (LE.var 1))) (IE.len (LE.fn 1 (AL.int .u64 (IE.len (LE.var 1)) AL.nil)))) :: pcrtext3_0) (some [(G.i (IE.len (LE.cat (LE.fn 1 (AL.int .u64 (IE.len (LE.var 1)) AL.nil)) (LE.var 1))) (IE.add (IE.len (LE.fn 1 (AL.int .u64 (IE.len (LE.var 1)) AL.nil))) (IE.len (LE.var 1)))), (G.l (LE.cat (LE.fn 1 (AL.int .u64 (IE.len (LE.var 1)) AL.nil)) (LE.var 1)) (LE.cat (LE.cat (LE.fn 1 (AL.int .u64 (IE.len (LE.var 1)) AL.nil)) (LE.var 1)) (LE.drop (LE.fn 1 (AL.int .u64 (IE.len (LE.var 1)) AL.nil)) (IE.add (IE.len (LE.fn 1 (AL.int .u64 (IE.len (LE.var 1)) AL.nil))) (IE.len (LE.var 1)))))), (G.i (IE.len (LE.cat (LE.fn 1 (AL.int .u64 (IE.len (LE.var 1)) AL.nil)) (LE.var 1))) (IE.len (LE.fn 1 (AL.int .u64 (IE.len (LE.var 1)) AL.nil))))]))
def wrtext3_1 : VW := (VW.done ((BE.not (BE.le (IE.add (IE.len (LE.fn 1 (AL.int .u64 (IE.len (LE.var 1)) AL.nil))) (IE.len (LE.var 1))) (IE.len (LE.fn 1 (AL.int .u64 (IE.len (LE.var 1)) AL.nil))))) :: pcrtext3_0) (some [(G.i (IE.len (LE.cat (LE.fn 1 (AL.int .u64 (IE.len (LE.var 1)) AL.nil)) (LE.var 1))) (IE.add (IE.len (LE.fn 1 (AL.int .u64 (IE.len (LE.var 1)) AL.nil))) (IE.len (LE.var 1)))), (G.i (IE.len (LE.cat (LE.fn 1 (AL.int .u64 (IE.len (LE.var 1)) AL.nil)) (LE.var 1))) (IE.add (IE.len (LE.fn 1 (AL.int .u64 (IE.len (LE.var 1)) AL.nil))) (IE.len (LE.var 1))))]))
def vwrtext3 : List VW := [wrtext3_0, wrtext3_1]
end
theorem vcrtext3_0 : VD TTrtext3 (st0 cRText3) wrtext3_0 := by
  intro ρ kn hp
  have hF : ρ.z.F = oct.Φ := kn.F
  simp only [h_nil, h_cons, d_le, d_eq, d_not, d_var, d_lit, d_cel, d_leq, d_fn, d_and, d_iff, IE.den, LE.den, AL.den, lenV, true_and, and_true, pcrtext3_0, hF, pi2, pi3, pi4, pi5, pi6, pi7, pl1, pi8, pi9, pl3, pi10, pi11, pb1, pl2, pb2, pl5] at hp
  obtain ⟨p1, p2, p3, p4⟩ := hp
  refine all_cons (show ((((ρ.z.F.l 1 [.int .u64 (((ρ.l 1).length : Nat) : Int)]) ++ (ρ.l 1)).length : Nat) : Int) = ((((ρ.z.F.l 1 [.int .u64 (((ρ.l 1).length : Nat) : Int)]).length : Nat) : Int) + (((ρ.l 1).length : Nat) : Int)) from ?_) (all_cons (show ((ρ.z.F.l 1 [.int .u64 (((ρ.l 1).length : Nat) : Int)]) ++ (ρ.l 1)) = (((ρ.z.F.l 1 [.int .u64 (((ρ.l 1).length : Nat) : Int)]) ++ (ρ.l 1)) ++ ((ρ.z.F.l 1 [.int .u64 (((ρ.l 1).length : Nat) : Int)]).drop ((((ρ.z.F.l 1 [.int .u64 (((ρ.l 1).length : Nat) : Int)]).length : Nat) : Int) + (((ρ.l 1).length : Nat) : Int)).toNat)) from ?_) (all_cons (show ((((ρ.z.F.l 1 [.int .u64 (((ρ.l 1).length : Nat) : Int)]) ++ (ρ.l 1)).length : Nat) : Int) = (((ρ.z.F.l 1 [.int .u64 (((ρ.l 1).length : Nat) : Int)]).length : Nat) : Int) from ?_) (all_nil)))
  all_goals try simp only [hF, pi2, pi3, pi4, pi5, pi6, pi7, pl1, pi8, pi9, pl3, pi10, pi11, pb1, pl2, pb2, pl5]
  all_goals
    have hc : clampK .u64 ((ρ.l 1).length : Int) = ((ρ.l 1).length : Int) := u64_in ⟨by omega, by omega⟩
    have hl := num_len ((ρ.l 1).length : Int)
    simp only [pl1, hc] at *
    first
      | (rw [List.drop_of_length_le (by first | omega | (simp only [List.length_append, List.length_cons, List.length_nil, rowB_len]; omega)), List.append_nil]; done)
      | (rw [List.drop_of_length_le (by first | omega | (simp only [List.length_append, List.length_cons, List.length_nil, rowB_len]; omega)), List.append_nil]; rfl)
      | (simp only [List.length_append]; done)
      | (simp only [List.length_append]; omega)
      | omega
      | trace_state
theorem vcrtext3_1 : VD TTrtext3 (st0 cRText3) wrtext3_1 := by
  intro ρ kn hp
  have hF : ρ.z.F = oct.Φ := kn.F
  simp only [h_nil, h_cons, d_le, d_eq, d_not, d_var, d_lit, d_cel, d_leq, d_fn, d_and, d_iff, IE.den, LE.den, AL.den, lenV, true_and, and_true, pcrtext3_0, hF, pi2, pi3, pi4, pi5, pi6, pi7, pl1, pi8, pi9, pl3, pi10, pi11, pb1, pl2, pb2, pl5] at hp
  obtain ⟨p1, p2, p3, p4⟩ := hp
  refine all_cons (show ((((ρ.z.F.l 1 [.int .u64 (((ρ.l 1).length : Nat) : Int)]) ++ (ρ.l 1)).length : Nat) : Int) = ((((ρ.z.F.l 1 [.int .u64 (((ρ.l 1).length : Nat) : Int)]).length : Nat) : Int) + (((ρ.l 1).length : Nat) : Int)) from ?_) (all_cons (show ((((ρ.z.F.l 1 [.int .u64 (((ρ.l 1).length : Nat) : Int)]) ++ (ρ.l 1)).length : Nat) : Int) = ((((ρ.z.F.l 1 [.int .u64 (((ρ.l 1).length : Nat) : Int)]).length : Nat) : Int) + (((ρ.l 1).length : Nat) : Int)) from ?_) (all_nil))
  all_goals try simp only [hF, pi2, pi3, pi4, pi5, pi6, pi7, pl1, pi8, pi9, pl3, pi10, pi11, pb1, pl2, pb2, pl5]
  all_goals
    have hc : clampK .u64 ((ρ.l 1).length : Int) = ((ρ.l 1).length : Int) := u64_in ⟨by omega, by omega⟩
    have hl := num_len ((ρ.l 1).length : Int)
    simp only [pl1, hc] at *
    first
      | (rw [List.drop_of_length_le (by first | omega | (simp only [List.length_append, List.length_cons, List.length_nil, rowB_len]; omega)), List.append_nil]; done)
      | (rw [List.drop_of_length_le (by first | omega | (simp only [List.length_append, List.length_cons, List.length_nil, rowB_len]; omega)), List.append_nil]; rfl)
      | (simp only [List.length_append]; done)
      | (simp only [List.length_append]; omega)
      | omega
      | trace_state
theorem told_rtext3 : Sx.Told oct.Φ cRText3 := told_vw (cs := [cRNumber]) (all_cons told_rnumber (all_nil)) 2000 vwrtext3 (by kernel_rfl) (by kernel_rfl) (by kernel_rfl) post_tx3 (by kernel_rfl) (by kernel_rfl) (all_cons vcrtext3_0 (all_cons vcrtext3_1 (all_nil)))
noncomputable section
abbrev TTlist : Tab := T oct.Φ cList.roms []
def tlist1 : Cfg := { top := ⟨31, over (opqS 10000 23) [(3, (SV.ptr 0 0)), (4, (SV.func (Go.Fn.func 63) [(SV.ptr 0 0)] [])), (12, (SV.rom 0 (IE.lit 0) (IE.len (LE.rom 0)) none)), (13, (SV.int .i64 (IE.len (LE.rom 0)))), (14, (SV.int .i64 (IE.var .i64 1000)))], ogt (loopTodo (bodyOf (T oct.Φ [] []) 31) 0), [], false, none⟩, rest := [], heap := [(0, .cells [(SV.sll 6 7 1 (IE.lit 0) (IE.var .i64 1001) none)] 104), (6, .rowl (LE.var 1003) (IE.var .i64 1004) [(CK.int .u8)] 5 7 1)], next := 8, pc := .lit true :: ([] ++ [(BE.le (IE.len (LE.rom 0)) (IE.lit 200)), (BE.fn 2 (AL.lst (LE.rom 0) AL.nil)), (BE.le (IE.lit 0) (IE.var .i64 1000)), (BE.le (IE.var .i64 1000) (IE.len (LE.rom 0))), (BE.le (IE.lit 0) (IE.var .i64 1001)), (BE.le (IE.lit 0) (IE.var .i64 1004))] ++ (.and (.lit true) (.lit true)) :: [.le (.len (.str (.rom 0) (.var .i64 1000) 0)) (.lit 3000), .le (.var .i64 1001) (.var .i64 1004), .le (.var .i64 1004) (.var .i64 1001), .le (.var .i64 1004) (.lit 4000)]) }
def tmlist : List (Nat × Cfg) := [(0, startF 31 cList.pat (.lit true :: cList.pre)), (1, tlist1)]
def sellist : Sel := [(31, 1, 514000, 1)]
def pclist0_0 : List BE := [(BE.lit true), (BE.fn 2 (AL.lst (LE.rom 0) AL.nil)), (BE.le (IE.len (LE.rom 0)) (IE.lit 200))]
def wlist0_0 : VW := (VW.cut 1 ((BE.le (IE.lit 128) (IE.len (LE.rom 0))) :: pclist0_0) (Sx.Sub.mk [(.i64, (1004, (IE.lit 2))), (.i64, (1001, (IE.lit 2))), (.i64, (1000, (IE.lit 0)))] [] [(1003, (LE.cat (LE.one (AL.int .u8 (IE.bin BinOp.or .u8 (IE.len (LE.rom 0)) (IE.lit 128)) AL.nil)) (LE.one (AL.int .u8 (IE.bin BinOp.shr .u64 (IE.len (LE.rom 0)) (IE.lit 7)) AL.nil))))] [] [] []))
def wlist0_1 : VW := (VW.cut 1 ((BE.not (BE.le (IE.lit 128) (IE.len (LE.rom 0)))) :: pclist0_0) (Sx.Sub.mk [(.i64, (1004, (IE.lit 1))), (.i64, (1001, (IE.lit 1))), (.i64, (1000, (IE.lit 0)))] [] [(1003, (LE.one (AL.int .u8 (IE.len (LE.rom 0)) AL.nil)))] [] [] []))
def vwlist0 : List VW := [wlist0_0, wlist0_1]
def pclist1_0 : List BE := [(BE.lit true), (BE.le (IE.len (LE.rom 0)) (IE.lit 200)), (BE.fn 2 (AL.lst (LE.rom 0) AL.nil)), (BE.le (IE.lit 0) (IE.var .i64 1000)), (BE.le (IE.var .i64 1000) (IE.len (LE.rom 0))), (BE.le (IE.lit 0) (IE.var .i64 1001)), (BE.le (IE.lit 0) (IE.var .i64 1004)), (BE.and (BE.lit true) (BE.lit true)), (BE.le (IE.len (LE.str (LE.rom 0) (IE.var .i64 1000) 0)) (IE.lit 3000)), (BE.le (IE.var .i64 1001) (IE.var .i64 1004)), (BE.le (IE.var .i64 1004) (IE.var .i64 1001)), (BE.le (IE.var .i64 1004) (IE.lit 4000))]
def pclist1_1 : List BE := ((BE.not (BE.le (IE.len (LE.rom 0)) (IE.var .i64 1000))) :: pclist1_0)
def pclist1_2 : List BE := ((BE.not (BE.le (IE.lit 128) (IE.len (LE.str (LE.rom 0) (IE.var .i64 1000) 0)))) :: pclist1_1)
def wlist1_0 : VW := (VW.done ((BE.le (IE.len (LE.rom 0)) (IE.var .i64 1000)) :: pclist1_0) (some [(G.i (IE.len (LE.fn 5 (AL.lst (LE.rom 0) AL.nil))) (IE.var .i64 1001)), (G.i (IE.len (LE.fn 5 (AL.lst (LE.rom 0) AL.nil))) (IE.var .i64 1001)), (G.l (LE.fn 5 (AL.lst (LE.rom 0) AL.nil)) (LE.var 1003)), (G.i (IE.len (LE.fn 5 (AL.lst (LE.rom 0) AL.nil))) (IE.var .i64 1004))]))
def wlist1_1 : VW := (VW.cut 1 ((BE.le (IE.lit 128) (IE.len (LE.str (LE.rom 0) (IE.var .i64 1000) 0))) :: pclist1_1) (Sx.Sub.mk [(.i64, (1004, (IE.add (IE.add (IE.var .i64 1001) (IE.lit 2)) (IE.len (LE.str (LE.rom 0) (IE.var .i64 1000) 0))))), (.i64, (1001, (IE.add (IE.add (IE.var .i64 1001) (IE.lit 2)) (IE.len (LE.str (LE.rom 0) (IE.var .i64 1000) 0))))), (.i64, (1000, (IE.add (IE.var .i64 1000) (IE.lit 1))))] [] [(1003, (LE.cat (LE.cat (LE.cat (LE.take (LE.var 1003) (IE.var .i64 1001)) (LE.one (AL.int .u8 (IE.bin BinOp.or .u8 (IE.wrap .u8 (IE.len (LE.str (LE.rom 0) (IE.var .i64 1000) 0))) (IE.lit 128)) AL.nil))) (LE.one (AL.int .u8 (IE.wrap .u8 (IE.bin BinOp.shr .u64 (IE.len (LE.str (LE.rom 0) (IE.var .i64 1000) 0)) (IE.lit 7))) AL.nil))) (LE.str (LE.rom 0) (IE.var .i64 1000) 0)))] [] [] []))
def wlist1_2 : VW := (VW.cut 1 ((BE.le (IE.add (IE.add (IE.var .i64 1001) (IE.lit 1)) (IE.len (LE.str (LE.rom 0) (IE.var .i64 1000) 0))) (IE.add (IE.var .i64 1001) (IE.lit 1))) :: pclist1_2) (Sx.Sub.mk [(.i64, (1004, (IE.add (IE.var .i64 1001) (IE.lit 1)))), (.i64, (1001, (IE.add (IE.add (IE.var .i64 1001) (IE.lit 1)) (IE.len (LE.str (LE.rom 0) (IE.var .i64 1000) 0))))), (.i64, (1000, (IE.add (IE.var .i64 1000) (IE.lit 1))))] [] [(1003, (LE.cat (LE.cat (LE.cat (LE.take (LE.var 1003) (IE.var .i64 1001)) (LE.one (AL.int .u8 (IE.len (LE.str (LE.rom 0) (IE.var .i64 1000) 0)) AL.nil))) (LE.str (LE.rom 0) (IE.var .i64 1000) 0)) (LE.drop (LE.cat (LE.take (LE.var 1003) (IE.var .i64 1001)) (LE.one (AL.int .u8 (IE.len (LE.str (LE.rom 0) (IE.var .i64 1000) 0)) AL.nil))) (IE.add (IE.add (IE.var .i64 1001) (IE.lit 1)) (IE.len (LE.str (LE.rom 0) (IE.var .i64 1000) 0))))))] [] [] []))
def wlist1_3 : VW := (VW.cut 1 ((BE.not (BE.le (IE.add (IE.add (IE.var .i64 1001) (IE.lit 1)) (IE.len (LE.str (LE.rom 0) (IE.var .i64 1000) 0))) (IE.add (IE.var .i64 1001) (IE.lit 1)))) :: pclist1_2) (Sx.Sub.mk [(.i64, (1004, (IE.add (IE.add (IE.var .i64 1001) (IE.lit 1)) (IE.len (LE.str (LE.rom 0) (IE.var .i64 1000) 0))))), (.i64, (1001, (IE.add (IE.add (IE.var .i64 1001) (IE.lit 1)) (IE.len (LE.str (LE.rom 0) (IE.var .i64 1000) 0))))), (.i64, (1000, (IE.add (IE.var .i64 1000) (IE.lit 1))))] [] [(1003, (LE.cat (LE.cat (LE.take (LE.var 1003) (IE.var .i64 1001)) (LE.one (AL.int .u8 (IE.len (LE.str (LE.rom 0) (IE.var .i64 1000) 0)) AL.nil))) (LE.str (LE.rom 0) (IE.var .i64 1000) 0)))] [] [] []))
def vwlist1 : List VW := [wlist1_0, wlist1_1, wlist1_2, wlist1_3]
def vwlist : Nat → List VW
  | 0 => vwlist0
  | 1 => vwlist1
  | _ => []
end
def invlist : Nat → Lt → Prop
  | 1, l => (l.l 1003) = catB (l.z.rl 0) (l.i .i64 1000).toNat ∧ (l.i .i64 1001) = (((l.l 1003)).length : Int) ∧ fewT (l.z.rl 0) = true ∧ 0 ≤ (l.i .i64 1000) ∧ (l.i .i64 1000) ≤ ((l.z.rl 0).length : Int)
  | _, _ => True
def mslist : Nat → Lt → Nat
  | 0, l => (l.z.rl 0).length + 1
  | 1, l => (l.z.rl 0).length - (l.i .i64 1000).toNat
  | _, _ => 0
theorem vclist0_0 : VC TTlist invlist mslist 0 (startF 31 cList.pat (.lit true :: cList.pre)) wlist0_0 := by
  intro ρ kn hi hp
  have hF : ρ.z.F = oct.Φ := kn.F
  simp only [h_nil, h_cons, d_le, d_eq, d_not, d_var, d_lit, d_cel, d_leq, d_fn, d_and, d_iff, IE.den, LE.den, AL.den, lenV, true_and, and_true, pclist0_0, hF, pi2, pi3, pi4, pi5, pi6, pi7, pl1, pi8, pi9, pl3, pi10, pi11, pb1, pl2, pb2, pl5] at hp
  obtain ⟨p1, p2, p3⟩ := hp
  refine (show ((([[Go.Value.int .u8 (binI BinOp.or .u8 (((ρ.z.rl 0).length : Nat) : Int) (128 : Int))]] : LV) ++ ([[Go.Value.int .u8 (binI BinOp.shr .u64 (((ρ.z.rl 0).length : Nat) : Int) (7 : Int))]] : LV)) = catB (ρ.z.rl 0) (0 : Int).toNat ∧ (2 : Int) = (((([[Go.Value.int .u8 (binI BinOp.or .u8 (((ρ.z.rl 0).length : Nat) : Int) (128 : Int))]] : LV) ++ ([[Go.Value.int .u8 (binI BinOp.shr .u64 (((ρ.z.rl 0).length : Nat) : Int) (7 : Int))]] : LV))).length : Int) ∧ fewT (ρ.z.rl 0) = true ∧ 0 ≤ (0 : Int) ∧ (0 : Int) ≤ ((ρ.z.rl 0).length : Int)) ∧ (((ρ.z.rl 0).length - (0 : Int).toNat : Nat) < (ρ.z.rl 0).length + 1) from ?_)
  refine ⟨⟨?_, rfl, by assumption, by omega, by omega⟩, by omega⟩
  show _ = catB (ρ.z.rl 0) 0
  rw [catB]
  first
    | (rw [num_two (n := (((ρ.z.rl 0).length : Nat) : Int)) (by omega) (by omega)]; simp (disch := omega) only [shr7, or_low2]; rfl)
    | (rw [num_one (by omega) (by omega)]; done)
    | (rw [num_one (by omega) (by omega)]; rfl)
theorem vclist0_1 : VC TTlist invlist mslist 0 (startF 31 cList.pat (.lit true :: cList.pre)) wlist0_1 := by
  intro ρ kn hi hp
  have hF : ρ.z.F = oct.Φ := kn.F
  simp only [h_nil, h_cons, d_le, d_eq, d_not, d_var, d_lit, d_cel, d_leq, d_fn, d_and, d_iff, IE.den, LE.den, AL.den, lenV, true_and, and_true, pclist0_0, hF, pi2, pi3, pi4, pi5, pi6, pi7, pl1, pi8, pi9, pl3, pi10, pi11, pb1, pl2, pb2, pl5] at hp
  obtain ⟨p1, p2, p3⟩ := hp
  refine (show (([[Go.Value.int .u8 (((ρ.z.rl 0).length : Nat) : Int)]] : LV) = catB (ρ.z.rl 0) (0 : Int).toNat ∧ (1 : Int) = ((([[Go.Value.int .u8 (((ρ.z.rl 0).length : Nat) : Int)]] : LV)).length : Int) ∧ fewT (ρ.z.rl 0) = true ∧ 0 ≤ (0 : Int) ∧ (0 : Int) ≤ ((ρ.z.rl 0).length : Int)) ∧ (((ρ.z.rl 0).length - (0 : Int).toNat : Nat) < (ρ.z.rl 0).length + 1) from ?_)
  refine ⟨⟨?_, rfl, by assumption, by omega, by omega⟩, by omega⟩
  show _ = catB (ρ.z.rl 0) 0
  rw [catB]
  first
    | (rw [num_two (n := (((ρ.z.rl 0).length : Nat) : Int)) (by omega) (by omega)]; simp (disch := omega) only [shr7, or_low2]; rfl)
    | (rw [num_one (by omega) (by omega)]; done)
    | (rw [num_one (by omega) (by omega)]; rfl)
def ivlist1 (ρ : Rho) : Prop := (ρ.l 1003) = catB (ρ.z.rl 0) (ρ.i .i64 1000).toNat ∧ (ρ.i .i64 1001) = (((ρ.l 1003)).length : Int) ∧ fewT (ρ.z.rl 0) = true ∧ 0 ≤ (ρ.i .i64 1000) ∧ (ρ.i .i64 1000) ≤ ((ρ.z.rl 0).length : Int)
theorem vclist1_0 : VC TTlist invlist mslist 1 tlist1 wlist1_0 := by
  intro ρ kn hi hp
  have hi : ivlist1 ρ := hi
  unfold ivlist1 at hi
  have hr6 : Typed [(CK.int .u8)] (ρ.l 1003) ∧ (ρ.i .i64 1004) = (((ρ.l 1003)).length : Int) := kn.rows 6 _ _ _ _ _ _ rfl
  have hF : ρ.z.F = oct.Φ := kn.F
  simp only [h_nil, h_cons, d_le, d_eq, d_not, d_var, d_lit, d_cel, d_leq, d_fn, d_and, d_iff, IE.den, LE.den, AL.den, lenV, true_and, and_true, pclist1_0, hF, pi2, pi3, pi4, pi5, pi6, pi7, pl1, pi8, pi9, pl3, pi10, pi11, pb1, pl2, pb2, pl5] at hp
  obtain ⟨p1, p2, p3, p4, p5, p6, p7, p8, p9, p10, p11⟩ := hp
  refine all_cons (show (((ρ.z.F.l 5 [.lst (ρ.z.rl 0)]).length : Nat) : Int) = (ρ.i .i64 1001) from ?_) (all_cons (show (((ρ.z.F.l 5 [.lst (ρ.z.rl 0)]).length : Nat) : Int) = (ρ.i .i64 1001) from ?_) (all_cons (show (ρ.z.F.l 5 [.lst (ρ.z.rl 0)]) = (ρ.l 1003) from ?_) (all_cons (show (((ρ.z.F.l 5 [.lst (ρ.z.rl 0)]).length : Nat) : Int) = (ρ.i .i64 1004) from ?_) (all_nil))))
  all_goals try simp only [hF, pi2, pi3, pi4, pi5, pi6, pi7, pl1, pi8, pi9, pl3, pi10, pi11, pb1, pl2, pb2, pl5]
  all_goals
    obtain ⟨hw, ht, hf, h0, h1⟩ := hi
    have hr : Typed byteK (ρ.l 1003) ∧ ρ.i .i64 1004 = ((ρ.l 1003).length : Int) := kn.rows 6 _ _ _ _ _ _ rfl
    have e : (ρ.i .i64 1000).toNat = (ρ.z.rl 0).length := by omega
    rw [e] at hw
    first
      | exact hw.symm
      | (rw [← hw]; omega)
theorem vclist1_1 : VC TTlist invlist mslist 1 tlist1 wlist1_1 := by
  intro ρ kn hi hp
  have hi : ivlist1 ρ := hi
  unfold ivlist1 at hi
  have hr6 : Typed [(CK.int .u8)] (ρ.l 1003) ∧ (ρ.i .i64 1004) = (((ρ.l 1003)).length : Int) := kn.rows 6 _ _ _ _ _ _ rfl
  have hF : ρ.z.F = oct.Φ := kn.F
  simp only [h_nil, h_cons, d_le, d_eq, d_not, d_var, d_lit, d_cel, d_leq, d_fn, d_and, d_iff, IE.den, LE.den, AL.den, lenV, true_and, and_true, pclist1_1, pclist1_0, hF, pi2, pi3, pi4, pi5, pi6, pi7, pl1, pi8, pi9, pl3, pi10, pi11, pb1, pl2, pb2, pl5] at hp
  obtain ⟨p1, p2, p3, p4, p5, p6, p7, p8, p9, p10, p11, p12⟩ := hp
  refine (show ((((((ρ.l 1003).take (ρ.i .i64 1001).toNat) ++ ([[Go.Value.int .u8 (binI BinOp.or .u8 (IntKind.wrap .u8 (((strV (celV (ρ.z.rl 0) (ρ.i .i64 1000) 0)).length : Nat) : Int)) (128 : Int))]] : LV)) ++ ([[Go.Value.int .u8 (IntKind.wrap .u8 (binI BinOp.shr .u64 (((strV (celV (ρ.z.rl 0) (ρ.i .i64 1000) 0)).length : Nat) : Int) (7 : Int)))]] : LV)) ++ (strV (celV (ρ.z.rl 0) (ρ.i .i64 1000) 0))) = catB (ρ.z.rl 0) ((ρ.i .i64 1000) + (1 : Int)).toNat ∧ (((ρ.i .i64 1001) + (2 : Int)) + (((strV (celV (ρ.z.rl 0) (ρ.i .i64 1000) 0)).length : Nat) : Int)) = (((((((ρ.l 1003).take (ρ.i .i64 1001).toNat) ++ ([[Go.Value.int .u8 (binI BinOp.or .u8 (IntKind.wrap .u8 (((strV (celV (ρ.z.rl 0) (ρ.i .i64 1000) 0)).length : Nat) : Int)) (128 : Int))]] : LV)) ++ ([[Go.Value.int .u8 (IntKind.wrap .u8 (binI BinOp.shr .u64 (((strV (celV (ρ.z.rl 0) (ρ.i .i64 1000) 0)).length : Nat) : Int) (7 : Int)))]] : LV)) ++ (strV (celV (ρ.z.rl 0) (ρ.i .i64 1000) 0)))).length : Int) ∧ fewT (ρ.z.rl 0) = true ∧ 0 ≤ ((ρ.i .i64 1000) + (1 : Int)) ∧ ((ρ.i .i64 1000) + (1 : Int)) ≤ ((ρ.z.rl 0).length : Int)) ∧ (((ρ.z.rl 0).length - ((ρ.i .i64 1000) + (1 : Int)).toNat : Nat) < (ρ.z.rl 0).length - (ρ.i .i64 1000).toNat) from ?_)
  obtain ⟨hw, ht, hf, h0, h1⟩ := hi
  have hr : Typed byteK (ρ.l 1003) ∧ ρ.i .i64 1004 = ((ρ.l 1003).length : Int) := kn.rows 6 _ _ _ _ _ _ rfl
  have tk : List.take (ρ.i .i64 1001).toNat (ρ.l 1003) = ρ.l 1003 := List.take_of_length_le (by omega)
  simp only [tk, tex_z (l := ρ.z.rl 0) h0] at *
  refine ⟨⟨?_, ?_, hf, by omega, by omega⟩, by omega⟩
  · rw [at_s h0, catB, ← hw]
    try rw [List.drop_eq_nil_of_le (by simp only [List.length_append, List.length_cons, List.length_nil]; omega), List.append_nil]
    first
      | (rw [num_two (n := (((texS (ρ.z.rl 0) (ρ.i .i64 1000).toNat).length : Nat) : Int)) (by omega) (by omega)]; simp (disch := omega) only [shr7, or_low, wrap_low, List.append_assoc]; rfl)
      | (rw [num_one (n := (((texS (ρ.z.rl 0) (ρ.i .i64 1000).toNat).length : Nat) : Int)) (by omega) (by omega)]; simp only [List.append_assoc]; done)
  · try rw [List.drop_eq_nil_of_le (by simp only [List.length_append, List.length_cons, List.length_nil]; omega), List.append_nil]
    simp only [List.length_append, List.length_cons, List.length_nil]
    omega
theorem vclist1_2 : VC TTlist invlist mslist 1 tlist1 wlist1_2 := by
  intro ρ kn hi hp
  have hi : ivlist1 ρ := hi
  unfold ivlist1 at hi
  have hr6 : Typed [(CK.int .u8)] (ρ.l 1003) ∧ (ρ.i .i64 1004) = (((ρ.l 1003)).length : Int) := kn.rows 6 _ _ _ _ _ _ rfl
  have hF : ρ.z.F = oct.Φ := kn.F
  simp only [h_nil, h_cons, d_le, d_eq, d_not, d_var, d_lit, d_cel, d_leq, d_fn, d_and, d_iff, IE.den, LE.den, AL.den, lenV, true_and, and_true, pclist1_2, pclist1_1, pclist1_0, hF, pi2, pi3, pi4, pi5, pi6, pi7, pl1, pi8, pi9, pl3, pi10, pi11, pb1, pl2, pb2, pl5] at hp
  obtain ⟨p1, p2, p3, p4, p5, p6, p7, p8, p9, p10, p11, p12, p13⟩ := hp
  refine (show ((((((ρ.l 1003).take (ρ.i .i64 1001).toNat) ++ ([[Go.Value.int .u8 (((strV (celV (ρ.z.rl 0) (ρ.i .i64 1000) 0)).length : Nat) : Int)]] : LV)) ++ (strV (celV (ρ.z.rl 0) (ρ.i .i64 1000) 0))) ++ ((((ρ.l 1003).take (ρ.i .i64 1001).toNat) ++ ([[Go.Value.int .u8 (((strV (celV (ρ.z.rl 0) (ρ.i .i64 1000) 0)).length : Nat) : Int)]] : LV)).drop (((ρ.i .i64 1001) + (1 : Int)) + (((strV (celV (ρ.z.rl 0) (ρ.i .i64 1000) 0)).length : Nat) : Int)).toNat)) = catB (ρ.z.rl 0) ((ρ.i .i64 1000) + (1 : Int)).toNat ∧ (((ρ.i .i64 1001) + (1 : Int)) + (((strV (celV (ρ.z.rl 0) (ρ.i .i64 1000) 0)).length : Nat) : Int)) = (((((((ρ.l 1003).take (ρ.i .i64 1001).toNat) ++ ([[Go.Value.int .u8 (((strV (celV (ρ.z.rl 0) (ρ.i .i64 1000) 0)).length : Nat) : Int)]] : LV)) ++ (strV (celV (ρ.z.rl 0) (ρ.i .i64 1000) 0))) ++ ((((ρ.l 1003).take (ρ.i .i64 1001).toNat) ++ ([[Go.Value.int .u8 (((strV (celV (ρ.z.rl 0) (ρ.i .i64 1000) 0)).length : Nat) : Int)]] : LV)).drop (((ρ.i .i64 1001) + (1 : Int)) + (((strV (celV (ρ.z.rl 0) (ρ.i .i64 1000) 0)).length : Nat) : Int)).toNat))).length : Int) ∧ fewT (ρ.z.rl 0) = true ∧ 0 ≤ ((ρ.i .i64 1000) + (1 : Int)) ∧ ((ρ.i .i64 1000) + (1 : Int)) ≤ ((ρ.z.rl 0).length : Int)) ∧ (((ρ.z.rl 0).length - ((ρ.i .i64 1000) + (1 : Int)).toNat : Nat) < (ρ.z.rl 0).length - (ρ.i .i64 1000).toNat) from ?_)
  obtain ⟨hw, ht, hf, h0, h1⟩ := hi
  have hr : Typed byteK (ρ.l 1003) ∧ ρ.i .i64 1004 = ((ρ.l 1003).length : Int) := kn.rows 6 _ _ _ _ _ _ rfl
  have tk : List.take (ρ.i .i64 1001).toNat (ρ.l 1003) = ρ.l 1003 := List.take_of_length_le (by omega)
  simp only [tk, tex_z (l := ρ.z.rl 0) h0] at *
  refine ⟨⟨?_, ?_, hf, by omega, by omega⟩, by omega⟩
  · rw [at_s h0, catB, ← hw]
    try rw [List.drop_eq_nil_of_le (by simp only [List.length_append, List.length_cons, List.length_nil]; omega), List.append_nil]
    first
      | (rw [num_two (n := (((texS (ρ.z.rl 0) (ρ.i .i64 1000).toNat).length : Nat) : Int)) (by omega) (by omega)]; simp (disch := omega) only [shr7, or_low, wrap_low, List.append_assoc]; rfl)
      | (rw [num_one (n := (((texS (ρ.z.rl 0) (ρ.i .i64 1000).toNat).length : Nat) : Int)) (by omega) (by omega)]; simp only [List.append_assoc]; done)
  · try rw [List.drop_eq_nil_of_le (by simp only [List.length_append, List.length_cons, List.length_nil]; omega), List.append_nil]
    simp only [List.length_append, List.length_cons, List.length_nil]
    omega
theorem vclist1_3 : VC TTlist invlist mslist 1 tlist1 wlist1_3 := by
  intro ρ kn hi hp
  have hi : ivlist1 ρ := hi
  unfold ivlist1 at hi
  have hr6 : Typed [(CK.int .u8)] (ρ.l 1003) ∧ (ρ.i .i64 1004) = (((ρ.l 1003)).length : Int) := kn.rows 6 _ _ _ _ _ _ rfl
  have hF : ρ.z.F = oct.Φ := kn.F
  simp only [h_nil, h_cons, d_le, d_eq, d_not, d_var, d_lit, d_cel, d_leq, d_fn, d_and, d_iff, IE.den, LE.den, AL.den, lenV, true_and, and_true, pclist1_2, pclist1_1, pclist1_0, hF, pi2, pi3, pi4, pi5, pi6, pi7, pl1, pi8, pi9, pl3, pi10, pi11, pb1, pl2, pb2, pl5] at hp
  obtain ⟨p1, p2, p3, p4, p5, p6, p7, p8, p9, p10, p11, p12, p13⟩ := hp
  refine (show (((((ρ.l 1003).take (ρ.i .i64 1001).toNat) ++ ([[Go.Value.int .u8 (((strV (celV (ρ.z.rl 0) (ρ.i .i64 1000) 0)).length : Nat) : Int)]] : LV)) ++ (strV (celV (ρ.z.rl 0) (ρ.i .i64 1000) 0))) = catB (ρ.z.rl 0) ((ρ.i .i64 1000) + (1 : Int)).toNat ∧ (((ρ.i .i64 1001) + (1 : Int)) + (((strV (celV (ρ.z.rl 0) (ρ.i .i64 1000) 0)).length : Nat) : Int)) = ((((((ρ.l 1003).take (ρ.i .i64 1001).toNat) ++ ([[Go.Value.int .u8 (((strV (celV (ρ.z.rl 0) (ρ.i .i64 1000) 0)).length : Nat) : Int)]] : LV)) ++ (strV (celV (ρ.z.rl 0) (ρ.i .i64 1000) 0)))).length : Int) ∧ fewT (ρ.z.rl 0) = true ∧ 0 ≤ ((ρ.i .i64 1000) + (1 : Int)) ∧ ((ρ.i .i64 1000) + (1 : Int)) ≤ ((ρ.z.rl 0).length : Int)) ∧ (((ρ.z.rl 0).length - ((ρ.i .i64 1000) + (1 : Int)).toNat : Nat) < (ρ.z.rl 0).length - (ρ.i .i64 1000).toNat) from ?_)
  obtain ⟨hw, ht, hf, h0, h1⟩ := hi
  have hr : Typed byteK (ρ.l 1003) ∧ ρ.i .i64 1004 = ((ρ.l 1003).length : Int) := kn.rows 6 _ _ _ _ _ _ rfl
  have tk : List.take (ρ.i .i64 1001).toNat (ρ.l 1003) = ρ.l 1003 := List.take_of_length_le (by omega)
  simp only [tk, tex_z (l := ρ.z.rl 0) h0] at *
  refine ⟨⟨?_, ?_, hf, by omega, by omega⟩, by omega⟩
  · rw [at_s h0, catB, ← hw]
    try rw [List.drop_eq_nil_of_le (by simp only [List.length_append, List.length_cons, List.length_nil]; omega), List.append_nil]
    first
      | (rw [num_two (n := (((texS (ρ.z.rl 0) (ρ.i .i64 1000).toNat).length : Nat) : Int)) (by omega) (by omega)]; simp (disch := omega) only [shr7, or_low, wrap_low, List.append_assoc]; rfl)
      | (rw [num_one (n := (((texS (ρ.z.rl 0) (ρ.i .i64 1000).toNat).length : Nat) : Int)) (by omega) (by omega)]; simp only [List.append_assoc]; done)
  · try rw [List.drop_eq_nil_of_le (by simp only [List.length_append, List.length_cons, List.length_nil]; omega), List.append_nil]
    simp only [List.length_append, List.length_cons, List.length_nil]
    omega
theorem vcslist0 : ∀ v ∈ vwlist 0, VC TTlist invlist mslist 0 (startF 31 cList.pat (.lit true :: cList.pre)) v := all_cons vclist0_0 (all_cons vclist0_1 (all_nil))
theorem oklist0 : cfgOk (startF 31 cList.pat (.lit true :: cList.pre)) = true := by kernel_rfl
theorem sglist0 : segL cList.roms cList (seg TTlist sellist 3000 tmlist (startF 31 cList.pat (.lit true :: cList.pre))) = (true, codesR tmlist (views (seg TTlist sellist 3000 tmlist (startF 31 cList.pat (.lit true :: cList.pre)))), vwlist 0) := by kernel_rfl
theorem vcslist1 : ∀ v ∈ vwlist 1, VC TTlist invlist mslist 1 tlist1 v := all_cons vclist1_0 (all_cons vclist1_1 (all_cons vclist1_2 (all_cons vclist1_3 (all_nil))))
theorem oklist1 : cfgOk tlist1 = true := by kernel_rfl
theorem sglist1 : segL cList.roms cList (seg TTlist sellist 3000 tmlist tlist1) = (true, codesR tmlist (views (seg TTlist sellist 3000 tmlist tlist1)), vwlist 1) := by kernel_rfl
theorem lnlist0 : ∀ ρ, Known TTlist (startF 31 cList.pat (.lit true :: cList.pre)) ρ → invlist 0 ρ.lt → Holds ρ (leanOf (Cfg.pc (startF 31 cList.pat (.lit true :: cList.pre)))) := by
  intro ρ _ _
  exact (show Holds ρ [] from fun p hp => by cases hp)
theorem lnlist1 : ∀ ρ, Known TTlist tlist1 ρ → invlist 1 ρ.lt → Holds ρ (leanOf (Cfg.pc tlist1)) := by
  intro ρ kn hi
  refine (show Holds ρ [.le (.len (.str (.rom 0) (.var .i64 1000) 0)) (.lit 3000), .le (.var .i64 1001) (.var .i64 1004), .le (.var .i64 1004) (.var .i64 1001), .le (.var .i64 1004) (.lit 4000)] from ?_)
  have hi : (ρ.l 1003) = catB (ρ.z.rl 0) (ρ.i .i64 1000).toNat ∧ (ρ.i .i64 1001) = (((ρ.l 1003)).length : Int) ∧ fewT (ρ.z.rl 0) = true ∧ 0 ≤ (ρ.i .i64 1000) ∧ (ρ.i .i64 1000) ≤ ((ρ.z.rl 0).length : Int) := hi
  have hF : ρ.z.F = oct.Φ := kn.F
  simp only [h_nil, h_cons, d_le, d_eq, d_not, d_var, d_lit, d_cel, d_leq, d_fn, d_and, d_iff, IE.den, LE.den, AL.den, lenV, true_and, and_true, hF, pi2, pi3, pi4, pi5, pi6, pi7, pl1, pi8, pi9, pl3, pi10, pi11, pb1, pl2, pb2, pl5]
  obtain ⟨hw, ht, hf, h0, h1⟩ := hi
  have hr : Typed byteK (ρ.l 1003) ∧ ρ.i .i64 1004 = ((ρ.l 1003).length : Int) := kn.rows 6 _ _ _ _ _ _ rfl
  have h3 := few_any (ρ.i .i64 1000).toNat hf
  have h4 := cat_4000 (k := (ρ.i .i64 1000).toNat) hf (by omega)
  rw [← hw] at h4
  simp only [IE.den, LE.den, tex_z (l := ρ.z.rl 0) h0, and_true, lenV]
  omega
theorem told_list : Sx.Told oct.Φ cList := by
  refine told_of (cs := []) (all_nil) (sel := sellist) 3000 tmlist invlist mslist vwlist 0 (pc0 := (.lit true :: cList.pre)) (by kernel_rfl) (by kernel_rfl) (by kernel_rfl) post_list ?_ ?_ ?_ rfl (fun ρ _ h => h.cons (p := .lit true) (by simp only [BE.den])) (fun _ _ _ _ => trivial) ?_
  · intro k C h
    have := lk_mem h
    simp only [tmlist, List.mem_cons, Prod.mk.injEq, List.not_mem_nil, or_false] at this
    rcases this with ⟨rfl, rfl⟩ | ⟨rfl, rfl⟩
    · exact oklist0
    · exact oklist1
  · intro k C h
    have := lk_mem h
    simp only [tmlist, List.mem_cons, Prod.mk.injEq, List.not_mem_nil, or_false] at this
    rcases this with ⟨rfl, rfl⟩ | ⟨rfl, rfl⟩
    · exact sglist0
    · exact sglist1
  · intro k C h
    have := lk_mem h
    simp only [tmlist, List.mem_cons, Prod.mk.injEq, List.not_mem_nil, or_false] at this
    rcases this with ⟨rfl, rfl⟩ | ⟨rfl, rfl⟩
    · exact vcslist0
    · exact vcslist1
  · intro k C h
    have := lk_mem h
    simp only [tmlist, List.mem_cons, Prod.mk.injEq, List.not_mem_nil, or_false] at this
    rcases this with ⟨rfl, rfl⟩ | ⟨rfl, rfl⟩
    · exact lnlist0
    · exact lnlist1
noncomputable section
abbrev TTrlist : Tab := T oct.Φ cRList.roms [cRText3, cRNumber]
def trlist1 : Cfg := { top := ⟨32, over (opqS 10000 23) [(0, (SV.rom 0 (IE.lit 0) (IE.len (LE.rom 0)) none)), (3, (SV.sll 0 1 1 (IE.lit 0) (IE.len (LE.var 1001)) none)), (4, (SV.int .i64 (IE.var .i64 1002)))], ogt (loopTodo (bodyOf (T oct.Φ [] []) 32) 0), [], false, none⟩, rest := [], heap := [(0, .rowl (LE.var 1001) (IE.len (LE.var 1001)) [(CK.int .u8)] 5 1 1)], next := 2, pc := .lit true :: ([] ++ [(BE.le (IE.len (LE.rom 0)) (IE.lit 200)), (BE.fn 2 (AL.lst (LE.rom 0) AL.nil)), (BE.le (IE.len (LE.fn 1 (AL.int .u64 (IE.len (LE.rom 0)) AL.nil))) (IE.lit 10)), (BE.le (IE.lit 1) (IE.len (LE.fn 1 (AL.int .u64 (IE.len (LE.rom 0)) AL.nil)))), (BE.le (IE.lit 0) (IE.var .i64 1002)), (BE.le (IE.var .i64 1002) (IE.len (LE.rom 0)))] ++ (.and (.lit true) (.lit true)) :: [.le (.len (.str (.rom 0) (.var .i64 1002) 0)) (.lit 3000), .le (.len (.var 1001)) (.lit 4000)]) }
def tmrlist : List (Nat × Cfg) := [(0, startF 32 cRList.pat (.lit true :: cRList.pre)), (1, trlist1)]
def selrlist : Sel := [(32, 1, 0, 1)]
def wrlist0_0 : VW := (VW.cut 1 [(BE.le (IE.lit 1) (IE.len (LE.fn 1 (AL.int .u64 (IE.len (LE.rom 0)) AL.nil)))), (BE.le (IE.len (LE.fn 1 (AL.int .u64 (IE.len (LE.rom 0)) AL.nil))) (IE.lit 10)), (BE.lit true), (BE.fn 2 (AL.lst (LE.rom 0) AL.nil)), (BE.le (IE.len (LE.rom 0)) (IE.lit 200))] (Sx.Sub.mk [(.i64, (1002, (IE.lit 0)))] [] [(1001, (LE.fn 1 (AL.int .u64 (IE.len (LE.rom 0)) AL.nil)))] [] [] []))
def vwrlist0 : List VW := [wrlist0_0]
def pcrlist1_0 : List BE := [(BE.lit true), (BE.le (IE.len (LE.rom 0)) (IE.lit 200)), (BE.fn 2 (AL.lst (LE.rom 0) AL.nil)), (BE.le (IE.len (LE.fn 1 (AL.int .u64 (IE.len (LE.rom 0)) AL.nil))) (IE.lit 10)), (BE.le (IE.lit 1) (IE.len (LE.fn 1 (AL.int .u64 (IE.len (LE.rom 0)) AL.nil)))), (BE.le (IE.lit 0) (IE.var .i64 1002)), (BE.le (IE.var .i64 1002) (IE.len (LE.rom 0))), (BE.and (BE.lit true) (BE.lit true)), (BE.le (IE.len (LE.str (LE.rom 0) (IE.var .i64 1002) 0)) (IE.lit 3000)), (BE.le (IE.len (LE.var 1001)) (IE.lit 4000))]
def wrlist1_0 : VW := (VW.done ((BE.le (IE.len (LE.rom 0)) (IE.var .i64 1002)) :: pcrlist1_0) (some [(G.i (IE.len (LE.fn 5 (AL.lst (LE.rom 0) AL.nil))) (IE.len (LE.var 1001))), (G.l (LE.fn 5 (AL.lst (LE.rom 0) AL.nil)) (LE.var 1001)), (G.i (IE.len (LE.fn 5 (AL.lst (LE.rom 0) AL.nil))) (IE.len (LE.var 1001)))]))
def wrlist1_1 : VW := (VW.cut 1 ((BE.le (IE.add (IE.len (LE.fn 1 (AL.int .u64 (IE.len (LE.str (LE.rom 0) (IE.var .i64 1002) 0)) AL.nil))) (IE.len (LE.str (LE.rom 0) (IE.var .i64 1002) 0))) (IE.lit 3002)) :: (BE.le (IE.lit 1) (IE.add (IE.len (LE.fn 1 (AL.int .u64 (IE.len (LE.str (LE.rom 0) (IE.var .i64 1002) 0)) AL.nil))) (IE.len (LE.str (LE.rom 0) (IE.var .i64 1002) 0)))) :: (BE.not (BE.le (IE.len (LE.rom 0)) (IE.var .i64 1002))) :: pcrlist1_0) (Sx.Sub.mk [(.i64, (1002, (IE.add (IE.var .i64 1002) (IE.lit 1))))] [] [(1001, (LE.cat (LE.var 1001) (LE.cat (LE.fn 1 (AL.int .u64 (IE.len (LE.str (LE.rom 0) (IE.var .i64 1002) 0)) AL.nil)) (LE.str (LE.rom 0) (IE.var .i64 1002) 0))))] [] [] []))
def vwrlist1 : List VW := [wrlist1_0, wrlist1_1]
def vwrlist : Nat → List VW
  | 0 => vwrlist0
  | 1 => vwrlist1
  | _ => []
end
def invrlist : Nat → Lt → Prop
  | 1, l => (l.l 1001) = catB (l.z.rl 0) (l.i .i64 1002).toNat ∧ fewT (l.z.rl 0) = true ∧ 0 ≤ (l.i .i64 1002) ∧ (l.i .i64 1002) ≤ ((l.z.rl 0).length : Int)
  | _, _ => True
def msrlist : Nat → Lt → Nat
  | 0, l => (l.z.rl 0).length + 1
  | 1, l => (l.z.rl 0).length - (l.i .i64 1002).toNat
  | _, _ => 0
theorem vcrlist0_0 : VC TTrlist invrlist msrlist 0 (startF 32 cRList.pat (.lit true :: cRList.pre)) wrlist0_0 := by
  intro ρ kn hi hp
  have hF : ρ.z.F = oct.Φ := kn.F
  simp only [h_nil, h_cons, d_le, d_eq, d_not, d_var, d_lit, d_cel, d_leq, d_fn, d_and, d_iff, IE.den, LE.den, AL.den, lenV, true_and, and_true, hF, pi2, pi3, pi4, pi5, pi6, pi7, pl1, pi8, pi9, pl3, pi10, pi11, pb1, pl2, pb2, pl5] at hp
  obtain ⟨p1, p2, p3, p4⟩ := hp
  refine (show ((ρ.z.F.l 1 [.int .u64 (((ρ.z.rl 0).length : Nat) : Int)]) = catB (ρ.z.rl 0) (0 : Int).toNat ∧ fewT (ρ.z.rl 0) = true ∧ 0 ≤ (0 : Int) ∧ (0 : Int) ≤ ((ρ.z.rl 0).length : Int)) ∧ (((ρ.z.rl 0).length - (0 : Int).toNat : Nat) < (ρ.z.rl 0).length + 1) from ?_)
  simp only [hF, pi2, pi3, pi4, pi5, pi6, pi7, pl1, pi8, pi9, pl3, pi10, pi11, pb1, pl2, pb2, pl5]
  exact ⟨⟨rfl, by assumption, by omega, by omega⟩, by omega⟩
def ivrlist1 (ρ : Rho) : Prop := (ρ.l 1001) = catB (ρ.z.rl 0) (ρ.i .i64 1002).toNat ∧ fewT (ρ.z.rl 0) = true ∧ 0 ≤ (ρ.i .i64 1002) ∧ (ρ.i .i64 1002) ≤ ((ρ.z.rl 0).length : Int)
theorem vcrlist1_0 : VC TTrlist invrlist msrlist 1 trlist1 wrlist1_0 := by
  intro ρ kn hi hp
  have hi : ivrlist1 ρ := hi
  unfold ivrlist1 at hi
  have hF : ρ.z.F = oct.Φ := kn.F
  simp only [h_nil, h_cons, d_le, d_eq, d_not, d_var, d_lit, d_cel, d_leq, d_fn, d_and, d_iff, IE.den, LE.den, AL.den, lenV, true_and, and_true, pcrlist1_0, hF, pi2, pi3, pi4, pi5, pi6, pi7, pl1, pi8, pi9, pl3, pi10, pi11, pb1, pl2, pb2, pl5] at hp
  obtain ⟨p1, p2, p3, p4, p5, p6, p7, p8, p9⟩ := hp
  refine all_cons (show (((ρ.z.F.l 5 [.lst (ρ.z.rl 0)]).length : Nat) : Int) = (((ρ.l 1001).length : Nat) : Int) from ?_) (all_cons (show (ρ.z.F.l 5 [.lst (ρ.z.rl 0)]) = (ρ.l 1001) from ?_) (all_cons (show (((ρ.z.F.l 5 [.lst (ρ.z.rl 0)]).length : Nat) : Int) = (((ρ.l 1001).length : Nat) : Int) from ?_) (all_nil)))
  all_goals try simp only [hF, pi2, pi3, pi4, pi5, pi6, pi7, pl1, pi8, pi9, pl3, pi10, pi11, pb1, pl2, pb2, pl5]
  all_goals
    obtain ⟨hw, hf, h0, h1⟩ := hi
    have e : (ρ.i .i64 1002).toNat = (ρ.z.rl 0).length := by omega
    rw [e] at hw
    first
      | exact hw.symm
      | (rw [← hw]; done)
theorem vcrlist1_1 : VC TTrlist invrlist msrlist 1 trlist1 wrlist1_1 := by
  intro ρ kn hi hp
  have hi : ivrlist1 ρ := hi
  unfold ivrlist1 at hi
  have hF : ρ.z.F = oct.Φ := kn.F
  simp only [h_nil, h_cons, d_le, d_eq, d_not, d_var, d_lit, d_cel, d_leq, d_fn, d_and, d_iff, IE.den, LE.den, AL.den, lenV, true_and, and_true, pcrlist1_0, hF, pi2, pi3, pi4, pi5, pi6, pi7, pl1, pi8, pi9, pl3, pi10, pi11, pb1, pl2, pb2, pl5] at hp
  obtain ⟨p1, p2, p3, p4, p5, p6, p7, p8, p9, p10, p11⟩ := hp
  refine (show (((ρ.l 1001) ++ ((ρ.z.F.l 1 [.int .u64 (((strV (celV (ρ.z.rl 0) (ρ.i .i64 1002) 0)).length : Nat) : Int)]) ++ (strV (celV (ρ.z.rl 0) (ρ.i .i64 1002) 0)))) = catB (ρ.z.rl 0) ((ρ.i .i64 1002) + (1 : Int)).toNat ∧ fewT (ρ.z.rl 0) = true ∧ 0 ≤ ((ρ.i .i64 1002) + (1 : Int)) ∧ ((ρ.i .i64 1002) + (1 : Int)) ≤ ((ρ.z.rl 0).length : Int)) ∧ (((ρ.z.rl 0).length - ((ρ.i .i64 1002) + (1 : Int)).toNat : Nat) < (ρ.z.rl 0).length - (ρ.i .i64 1002).toNat) from ?_)
  simp only [hF, pi2, pi3, pi4, pi5, pi6, pi7, pl1, pi8, pi9, pl3, pi10, pi11, pb1, pl2, pb2, pl5]
  obtain ⟨hw, hf, h0, h1⟩ := hi
  simp only [tex_z (l := ρ.z.rl 0) h0] at *
  refine ⟨⟨?_, hf, by omega, by omega⟩, by omega⟩
  rw [at_s h0, catB, ← hw]
theorem vcsrlist0 : ∀ v ∈ vwrlist 0, VC TTrlist invrlist msrlist 0 (startF 32 cRList.pat (.lit true :: cRList.pre)) v := all_cons vcrlist0_0 (all_nil)
theorem okrlist0 : cfgOk (startF 32 cRList.pat (.lit true :: cRList.pre)) = true := by kernel_rfl
theorem sgrlist0 : segL cRList.roms cRList (seg TTrlist selrlist 3000 tmrlist (startF 32 cRList.pat (.lit true :: cRList.pre))) = (true, codesR tmrlist (views (seg TTrlist selrlist 3000 tmrlist (startF 32 cRList.pat (.lit true :: cRList.pre)))), vwrlist 0) := by kernel_rfl
theorem vcsrlist1 : ∀ v ∈ vwrlist 1, VC TTrlist invrlist msrlist 1 trlist1 v := all_cons vcrlist1_0 (all_cons vcrlist1_1 (all_nil))
theorem okrlist1 : cfgOk trlist1 = true := by kernel_rfl
theorem sgrlist1 : segL cRList.roms cRList (seg TTrlist selrlist 3000 tmrlist trlist1) = (true, codesR tmrlist (views (seg TTrlist selrlist 3000 tmrlist trlist1)), vwrlist 1) := by kernel_rfl
theorem lnrlist0 : ∀ ρ, Known TTrlist (startF 32 cRList.pat (.lit true :: cRList.pre)) ρ → invrlist 0 ρ.lt → Holds ρ (leanOf (Cfg.pc (startF 32 cRList.pat (.lit true :: cRList.pre)))) := by
  intro ρ _ _
  exact (show Holds ρ [] from fun p hp => by cases hp)
theorem lnrlist1 : ∀ ρ, Known TTrlist trlist1 ρ → invrlist 1 ρ.lt → Holds ρ (leanOf (Cfg.pc trlist1)) := by
  intro ρ kn hi
  refine (show Holds ρ [.le (.len (.str (.rom 0) (.var .i64 1002) 0)) (.lit 3000), .le (.len (.var 1001)) (.lit 4000)] from ?_)
  have hi : (ρ.l 1001) = catB (ρ.z.rl 0) (ρ.i .i64 1002).toNat ∧ fewT (ρ.z.rl 0) = true ∧ 0 ≤ (ρ.i .i64 1002) ∧ (ρ.i .i64 1002) ≤ ((ρ.z.rl 0).length : Int) := hi
  have hF : ρ.z.F = oct.Φ := kn.F
  simp only [h_nil, h_cons, d_le, d_eq, d_not, d_var, d_lit, d_cel, d_leq, d_fn, d_and, d_iff, IE.den, LE.den, AL.den, lenV, true_and, and_true, hF, pi2, pi3, pi4, pi5, pi6, pi7, pl1, pi8, pi9, pl3, pi10, pi11, pb1, pl2, pb2, pl5]
  obtain ⟨hw, hf, h0, h1⟩ := hi
  have h3 := few_any (ρ.i .i64 1002).toNat hf
  have h4 := cat_4000 (k := (ρ.i .i64 1002).toNat) hf (by omega)
  rw [← hw] at h4
  simp only [IE.den, LE.den, tex_z (l := ρ.z.rl 0) h0, and_true, lenV]
  omega
theorem told_rlist : Sx.Told oct.Φ cRList := by
  refine told_of (cs := [cRText3, cRNumber]) (all_cons told_rtext3 (all_cons told_rnumber (all_nil))) (sel := selrlist) 3000 tmrlist invrlist msrlist vwrlist 0 (pc0 := (.lit true :: cRList.pre)) (by kernel_rfl) (by kernel_rfl) (by kernel_rfl) post_rlist ?_ ?_ ?_ rfl (fun ρ _ h => h.cons (p := .lit true) (by simp only [BE.den])) (fun _ _ _ _ => trivial) ?_
  · intro k C h
    have := lk_mem h
    simp only [tmrlist, List.mem_cons, Prod.mk.injEq, List.not_mem_nil, or_false] at this
    rcases this with ⟨rfl, rfl⟩ | ⟨rfl, rfl⟩
    · exact okrlist0
    · exact okrlist1
  · intro k C h
    have := lk_mem h
    simp only [tmrlist, List.mem_cons, Prod.mk.injEq, List.not_mem_nil, or_false] at this
    rcases this with ⟨rfl, rfl⟩ | ⟨rfl, rfl⟩
    · exact sgrlist0
    · exact sgrlist1
  · intro k C h
    have := lk_mem h
    simp only [tmrlist, List.mem_cons, Prod.mk.injEq, List.not_mem_nil, or_false] at this
    rcases this with ⟨rfl, rfl⟩ | ⟨rfl, rfl⟩
    · exact vcsrlist0
    · exact vcsrlist1
  · intro k C h
    have := lk_mem h
    simp only [tmrlist, List.mem_cons, Prod.mk.injEq, List.not_mem_nil, or_false] at this
    rcases this with ⟨rfl, rfl⟩ | ⟨rfl, rfl⟩
    · exact lnrlist0
    · exact lnrlist1
end Go.Proofs.Ytjgkaimgocnkmaa.oct
