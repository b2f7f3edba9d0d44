/- Layer hold: modes of holds. No condition. -/
import Derived.Test.YteblnjgghbclpaaDoorHe
set_option linter.unusedVariables false
set_option linter.unusedSimpArgs false
set_option linter.deprecated false
namespace Go.Proofs.YteblnjgghbclpaaDoor.hold
open Go Go.Proofs.YteblnjgghbclpaaDoor.Sx
noncomputable section
abbrev TTm86 : Tab := T hold.Φ cM86.roms []
def tm861 : Cfg := { top := ⟨86, over (opqS 10000 19) [(3, (SV.const (Go.Value.slice none 0 0))), (6, (SV.rom 0 (IE.lit 0) (IE.len (LE.rom 0)) none)), (7, (SV.int .i64 (IE.len (LE.rom 0)))), (8, (SV.int .i64 (IE.lit 0)))], ogt (loopTodo (bodyOf (T hold.Φ [] []) 86) 0), [], false, none⟩, rest := [], heap := [], next := 1, pc := .lit true :: ([] ++ [(BE.le (IE.len (LE.rom 0)) (IE.lit 1000000)), (BE.le (IE.lit 1) (IE.len (LE.rom 0)))]) }
def tm862 : Cfg := { top := ⟨86, over (opqS 10000 19) [(3, (SV.sll 3 4 1 (IE.lit 0) (IE.var .i64 1000) none)), (6, (SV.rom 0 (IE.lit 0) (IE.len (LE.rom 0)) none)), (7, (SV.int .i64 (IE.len (LE.rom 0)))), (8, (SV.int .i64 (IE.var .i64 1000)))], ogt (loopTodo (bodyOf (T hold.Φ [] []) 86) 0), [], false, none⟩, rest := [], heap := [(3, .rowl (LE.var 1002) (IE.var .i64 1000) [(CK.int .i64)] 23 4 1)], next := 5, pc := .lit true :: ([] ++ [(BE.le (IE.lit 1) (IE.len (LE.rom 0))), (BE.le (IE.len (LE.rom 0)) (IE.lit 1000000)), (BE.le (IE.lit 0) (IE.var .i64 1000)), (BE.le (IE.var .i64 1000) (IE.len (LE.rom 0)))]) }
def tmm86 : List (Nat × Cfg) := [(0, startF 86 cM86.pat (.lit true :: cM86.pre)), (1, tm861), (2, tm862)]
def selm86 : Sel := [(86, 1, 385000, 1), (86, 1, 386000, 2)]
def wm860_0 : VW := (VW.cut 1 [(BE.lit true), (BE.le (IE.lit 1) (IE.len (LE.rom 0))), (BE.le (IE.len (LE.rom 0)) (IE.lit 1000000))] (Sx.Sub.mk [] [] [] [] [] []))
def vwm860 : List VW := [wm860_0]
def wm861_0 : VW := (VW.cut 2 [(BE.lit true), (BE.le (IE.len (LE.rom 0)) (IE.lit 1000000)), (BE.le (IE.lit 1) (IE.len (LE.rom 0)))] (Sx.Sub.mk [(.i64, (1000, (IE.lit 1)))] [] [(1002, (LE.one (AL.int .i64 (IE.cel .i64 (LE.rom 0) (IE.lit 0) 2) AL.nil)))] [] [] []))
def vwm861 : List VW := [wm861_0]
def pcm862_0 : List BE := [(BE.lit true), (BE.le (IE.lit 1) (IE.len (LE.rom 0))), (BE.le (IE.len (LE.rom 0)) (IE.lit 1000000)), (BE.le (IE.lit 0) (IE.var .i64 1000)), (BE.le (IE.var .i64 1000) (IE.len (LE.rom 0)))]
def wm862_0 : VW := (VW.done ((BE.le (IE.len (LE.rom 0)) (IE.var .i64 1000)) :: pcm862_0) (some [(G.i (IE.len (LE.fn 2 (AL.lst (LE.rom 0) AL.nil))) (IE.var .i64 1000)), (G.l (LE.fn 2 (AL.lst (LE.rom 0) AL.nil)) (LE.var 1002)), (G.i (IE.len (LE.fn 2 (AL.lst (LE.rom 0) AL.nil))) (IE.var .i64 1000))]))
def wm862_1 : VW := (VW.cut 2 ((BE.not (BE.le (IE.len (LE.rom 0)) (IE.var .i64 1000))) :: pcm862_0) (Sx.Sub.mk [(.i64, (1000, (IE.add (IE.var .i64 1000) (IE.lit 1))))] [] [(1002, (LE.cat (LE.var 1002) (LE.one (AL.int .i64 (IE.cel .i64 (LE.rom 0) (IE.var .i64 1000) 2) AL.nil))))] [] [] []))
def vwm862 : List VW := [wm862_0, wm862_1]
def vwm86 : Nat → List VW
  | 0 => vwm860
  | 1 => vwm861
  | 2 => vwm862
  | _ => []
end
def invm86 : Nat → Lt → Prop
  | 2, l => (l.l 1002) = modesL (l.z.rl 0) (l.i .i64 1000).toNat
  | _, _ => True
def msm86 : Nat → Lt → Nat
  | 0, l => (l.z.rl 0).length + 3
  | 1, l => (l.z.rl 0).length + 2
  | 2, l => (l.z.rl 0).length - (l.i .i64 1000).toNat
  | _, _ => 0
theorem vcm860_0 : VC TTm86 invm86 msm86 0 (startF 86 cM86.pat (.lit true :: cM86.pre)) wm860_0 := by
  intro ρ kn hi hp
  have hF : ρ.z.F = hold.Φ := kn.F
  simp only [h_nil, h_cons, d_le, d_eq, d_not, d_var, d_lit, d_cel, d_leq, d_fn, d_and, d_iff, IE.den, LE.den, AL.den, lenV, true_and, and_true, hF, pi1, pl2, pb1, pb2, pb3, pb4, pb5, pb6] at hp
  obtain ⟨p1, p2⟩ := hp
  refine (show (True) ∧ (((ρ.z.rl 0).length + 2 : Nat) < (ρ.z.rl 0).length + 3) from ?_)
  exact ⟨trivial, by omega⟩
theorem vcm861_0 : VC TTm86 invm86 msm86 1 tm861 wm861_0 := by
  intro ρ kn hi hp
  have hF : ρ.z.F = hold.Φ := kn.F
  simp only [h_nil, h_cons, d_le, d_eq, d_not, d_var, d_lit, d_cel, d_leq, d_fn, d_and, d_iff, IE.den, LE.den, AL.den, lenV, true_and, and_true, hF, pi1, pl2, pb1, pb2, pb3, pb4, pb5, pb6] at hp
  obtain ⟨p1, p2⟩ := hp
  refine (show (([[Go.Value.int .i64 (clampK .i64 (intV (celV (ρ.z.rl 0) (0 : Int) 2)))]] : LV) = modesL (ρ.z.rl 0) (1 : Int).toNat) ∧ (((ρ.z.rl 0).length - (1 : Int).toNat : Nat) < (ρ.z.rl 0).length + 2) from ?_)
  exact ⟨by simp [modesL, atI], by omega⟩
def ivm862 (ρ : Rho) : Prop := (ρ.l 1002) = modesL (ρ.z.rl 0) (ρ.i .i64 1000).toNat
theorem vcm862_0 : VC TTm86 invm86 msm86 2 tm862 wm862_0 := by
  intro ρ kn hi hp
  have hi : ivm862 ρ := hi
  unfold ivm862 at hi
  have hF : ρ.z.F = hold.Φ := kn.F
  simp only [h_nil, h_cons, d_le, d_eq, d_not, d_var, d_lit, d_cel, d_leq, d_fn, d_and, d_iff, IE.den, LE.den, AL.den, lenV, true_and, and_true, pcm862_0, hF, pi1, pl2, pb1, pb2, pb3, pb4, pb5, pb6] at hp
  obtain ⟨p1, p2, p3, p4, p5⟩ := hp
  refine all_cons (show (((ρ.z.F.l 2 [.lst (ρ.z.rl 0)]).length : Nat) : Int) = (ρ.i .i64 1000) from ?_) (all_cons (show (ρ.z.F.l 2 [.lst (ρ.z.rl 0)]) = (ρ.l 1002) from ?_) (all_cons (show (((ρ.z.F.l 2 [.lst (ρ.z.rl 0)]).length : Nat) : Int) = (ρ.i .i64 1000) from ?_) (all_nil)))
  all_goals try simp only [hF, pi1, pl2, pb1, pb2, pb3, pb4, pb5, pb6]
  all_goals
    first
      | (rw [modes_len]; omega)
      | rw [hi, show (ρ.z.rl 0).length = (ρ.i .i64 1000).toNat by omega]
theorem vcm862_1 : VC TTm86 invm86 msm86 2 tm862 wm862_1 := by
  intro ρ kn hi hp
  have hi : ivm862 ρ := hi
  unfold ivm862 at hi
  have hF : ρ.z.F = hold.Φ := kn.F
  simp only [h_nil, h_cons, d_le, d_eq, d_not, d_var, d_lit, d_cel, d_leq, d_fn, d_and, d_iff, IE.den, LE.den, AL.den, lenV, true_and, and_true, pcm862_0, hF, pi1, pl2, pb1, pb2, pb3, pb4, pb5, pb6] at hp
  obtain ⟨p1, p2, p3, p4, p5⟩ := hp
  refine (show (((ρ.l 1002) ++ ([[Go.Value.int .i64 (clampK .i64 (intV (celV (ρ.z.rl 0) (ρ.i .i64 1000) 2)))]] : LV)) = modesL (ρ.z.rl 0) ((ρ.i .i64 1000) + (1 : Int)).toNat) ∧ (((ρ.z.rl 0).length - ((ρ.i .i64 1000) + (1 : Int)).toNat : Nat) < (ρ.z.rl 0).length - (ρ.i .i64 1000).toNat) from ?_)
  exact ⟨by rw [at_s (by omega), modesL, ← hi, at_z (by omega)], by omega⟩
theorem vcsm860 : ∀ v ∈ vwm86 0, VC TTm86 invm86 msm86 0 (startF 86 cM86.pat (.lit true :: cM86.pre)) v := all_cons vcm860_0 (all_nil)
theorem okm860 : cfgOk (startF 86 cM86.pat (.lit true :: cM86.pre)) = true := by kernel_rfl
theorem sgm860 : segL cM86.roms cM86 (seg TTm86 selm86 600 tmm86 (startF 86 cM86.pat (.lit true :: cM86.pre))) = (true, codesR tmm86 (views (seg TTm86 selm86 600 tmm86 (startF 86 cM86.pat (.lit true :: cM86.pre)))), vwm86 0) := by kernel_rfl
theorem vcsm861 : ∀ v ∈ vwm86 1, VC TTm86 invm86 msm86 1 tm861 v := all_cons vcm861_0 (all_nil)
theorem okm861 : cfgOk tm861 = true := by kernel_rfl
theorem sgm861 : segL cM86.roms cM86 (seg TTm86 selm86 600 tmm86 tm861) = (true, codesR tmm86 (views (seg TTm86 selm86 600 tmm86 tm861)), vwm86 1) := by kernel_rfl
theorem vcsm862 : ∀ v ∈ vwm86 2, VC TTm86 invm86 msm86 2 tm862 v := all_cons vcm862_0 (all_cons vcm862_1 (all_nil))
theorem okm862 : cfgOk tm862 = true := by kernel_rfl
theorem sgm862 : segL cM86.roms cM86 (seg TTm86 selm86 600 tmm86 tm862) = (true, codesR tmm86 (views (seg TTm86 selm86 600 tmm86 tm862)), vwm86 2) := by kernel_rfl
theorem lnm860 : ∀ ρ, Known TTm86 (startF 86 cM86.pat (.lit true :: cM86.pre)) ρ → invm86 0 ρ.lt → Holds ρ (leanOf (Cfg.pc (startF 86 cM86.pat (.lit true :: cM86.pre)))) := by
  intro ρ _ _
  exact (show Holds ρ [] from fun p hp => by cases hp)
theorem lnm861 : ∀ ρ, Known TTm86 tm861 ρ → invm86 1 ρ.lt → Holds ρ (leanOf (Cfg.pc tm861)) := by
  intro ρ _ _
  exact (show Holds ρ [] from fun p hp => by cases hp)
theorem lnm862 : ∀ ρ, Known TTm86 tm862 ρ → invm86 2 ρ.lt → Holds ρ (leanOf (Cfg.pc tm862)) := by
  intro ρ _ _
  exact (show Holds ρ [] from fun p hp => by cases hp)
theorem told_m86 : Sx.Told hold.Φ cM86 := by
  refine told_of (cs := []) (all_nil) (sel := selm86) 600 tmm86 invm86 msm86 vwm86 0 (pc0 := (.lit true :: cM86.pre)) (by kernel_rfl) (by kernel_rfl) (by kernel_rfl) (post_modes 86) ?_ ?_ ?_ rfl (fun ρ _ h => h.cons (p := .lit true) (by simp only [BE.den])) (fun _ _ _ _ => trivial) ?_
  · intro k C h
    have := lk_mem h
    simp only [tmm86, List.mem_cons, Prod.mk.injEq, List.not_mem_nil, or_false] at this
    rcases this with ⟨rfl, rfl⟩ | ⟨rfl, rfl⟩ | ⟨rfl, rfl⟩
    · exact okm860
    · exact okm861
    · exact okm862
  · intro k C h
    have := lk_mem h
    simp only [tmm86, List.mem_cons, Prod.mk.injEq, List.not_mem_nil, or_false] at this
    rcases this with ⟨rfl, rfl⟩ | ⟨rfl, rfl⟩ | ⟨rfl, rfl⟩
    · exact sgm860
    · exact sgm861
    · exact sgm862
  · intro k C h
    have := lk_mem h
    simp only [tmm86, List.mem_cons, Prod.mk.injEq, List.not_mem_nil, or_false] at this
    rcases this with ⟨rfl, rfl⟩ | ⟨rfl, rfl⟩ | ⟨rfl, rfl⟩
    · exact vcsm860
    · exact vcsm861
    · exact vcsm862
  · intro k C h
    have := lk_mem h
    simp only [tmm86, List.mem_cons, Prod.mk.injEq, List.not_mem_nil, or_false] at this
    rcases this with ⟨rfl, rfl⟩ | ⟨rfl, rfl⟩ | ⟨rfl, rfl⟩
    · exact lnm860
    · exact lnm861
    · exact lnm862
noncomputable section
abbrev TTm51 : Tab := T hold.Φ cM51.roms []
def tm511 : Cfg := { top := ⟨51, over (opqS 10000 20) [(0, (SV.rom 0 (IE.lit 0) (IE.len (LE.rom 0)) none)), (3, (SV.const (Go.Value.slice none 0 0))), (4, (SV.int .i64 (IE.lit 0)))], ogt (loopTodo (bodyOf (T hold.Φ [] []) 51) 0), [], false, none⟩, rest := [], heap := [], next := 1, pc := .lit true :: ([] ++ [(BE.le (IE.len (LE.rom 0)) (IE.lit 1000000)), (BE.le (IE.lit 1) (IE.len (LE.rom 0)))]) }
def tm512 : Cfg := { top := ⟨51, over (opqS 10000 20) [(0, (SV.rom 0 (IE.lit 0) (IE.len (LE.rom 0)) none)), (3, (SV.sll 2 3 1 (IE.lit 0) (IE.var .i64 1000) none)), (4, (SV.int .i64 (IE.var .i64 1000)))], ogt (loopTodo (bodyOf (T hold.Φ [] []) 51) 0), [], false, none⟩, rest := [], heap := [(2, .rowl (LE.var 1002) (IE.var .i64 1000) [(CK.int .i64)] 23 3 1)], next := 4, pc := .lit true :: ([] ++ [(BE.le (IE.lit 1) (IE.len (LE.rom 0))), (BE.le (IE.len (LE.rom 0)) (IE.lit 1000000)), (BE.le (IE.lit 0) (IE.var .i64 1000)), (BE.le (IE.var .i64 1000) (IE.len (LE.rom 0)))]) }
def tmm51 : List (Nat × Cfg) := [(0, startF 51 cM51.pat (.lit true :: cM51.pre)), (1, tm511), (2, tm512)]
def selm51 : Sel := [(51, 1, 385000, 1), (51, 1, 386000, 2)]
def wm510_0 : VW := (VW.cut 1 [(BE.lit true), (BE.le (IE.lit 1) (IE.len (LE.rom 0))), (BE.le (IE.len (LE.rom 0)) (IE.lit 1000000))] (Sx.Sub.mk [] [] [] [] [] []))
def vwm510 : List VW := [wm510_0]
def wm511_0 : VW := (VW.cut 2 [(BE.lit true), (BE.le (IE.len (LE.rom 0)) (IE.lit 1000000)), (BE.le (IE.lit 1) (IE.len (LE.rom 0)))] (Sx.Sub.mk [(.i64, (1000, (IE.lit 1)))] [] [(1002, (LE.one (AL.int .i64 (IE.cel .i64 (LE.rom 0) (IE.lit 0) 2) AL.nil)))] [] [] []))
def vwm511 : List VW := [wm511_0]
def pcm512_0 : List BE := [(BE.lit true), (BE.le (IE.lit 1) (IE.len (LE.rom 0))), (BE.le (IE.len (LE.rom 0)) (IE.lit 1000000)), (BE.le (IE.lit 0) (IE.var .i64 1000)), (BE.le (IE.var .i64 1000) (IE.len (LE.rom 0)))]
def wm512_0 : VW := (VW.done ((BE.le (IE.len (LE.rom 0)) (IE.var .i64 1000)) :: pcm512_0) (some [(G.i (IE.len (LE.fn 2 (AL.lst (LE.rom 0) AL.nil))) (IE.var .i64 1000)), (G.l (LE.fn 2 (AL.lst (LE.rom 0) AL.nil)) (LE.var 1002)), (G.i (IE.len (LE.fn 2 (AL.lst (LE.rom 0) AL.nil))) (IE.var .i64 1000))]))
def wm512_1 : VW := (VW.cut 2 ((BE.not (BE.le (IE.len (LE.rom 0)) (IE.var .i64 1000))) :: pcm512_0) (Sx.Sub.mk [(.i64, (1000, (IE.add (IE.var .i64 1000) (IE.lit 1))))] [] [(1002, (LE.cat (LE.var 1002) (LE.one (AL.int .i64 (IE.cel .i64 (LE.rom 0) (IE.var .i64 1000) 2) AL.nil))))] [] [] []))
def vwm512 : List VW := [wm512_0, wm512_1]
def vwm51 : Nat → List VW
  | 0 => vwm510
  | 1 => vwm511
  | 2 => vwm512
  | _ => []
end
def invm51 : Nat → Lt → Prop
  | 2, l => (l.l 1002) = modesL (l.z.rl 0) (l.i .i64 1000).toNat
  | _, _ => True
def msm51 : Nat → Lt → Nat
  | 0, l => (l.z.rl 0).length + 3
  | 1, l => (l.z.rl 0).length + 2
  | 2, l => (l.z.rl 0).length - (l.i .i64 1000).toNat
  | _, _ => 0
theorem vcm510_0 : VC TTm51 invm51 msm51 0 (startF 51 cM51.pat (.lit true :: cM51.pre)) wm510_0 := by
  intro ρ kn hi hp
  have hF : ρ.z.F = hold.Φ := kn.F
  simp only [h_nil, h_cons, d_le, d_eq, d_not, d_var, d_lit, d_cel, d_leq, d_fn, d_and, d_iff, IE.den, LE.den, AL.den, lenV, true_and, and_true, hF, pi1, pl2, pb1, pb2, pb3, pb4, pb5, pb6] at hp
  obtain ⟨p1, p2⟩ := hp
  refine (show (True) ∧ (((ρ.z.rl 0).length + 2 : Nat) < (ρ.z.rl 0).length + 3) from ?_)
  exact ⟨trivial, by omega⟩
theorem vcm511_0 : VC TTm51 invm51 msm51 1 tm511 wm511_0 := by
  intro ρ kn hi hp
  have hF : ρ.z.F = hold.Φ := kn.F
  simp only [h_nil, h_cons, d_le, d_eq, d_not, d_var, d_lit, d_cel, d_leq, d_fn, d_and, d_iff, IE.den, LE.den, AL.den, lenV, true_and, and_true, hF, pi1, pl2, pb1, pb2, pb3, pb4, pb5, pb6] at hp
  obtain ⟨p1, p2⟩ := hp
  refine (show (([[Go.Value.int .i64 (clampK .i64 (intV (celV (ρ.z.rl 0) (0 : Int) 2)))]] : LV) = modesL (ρ.z.rl 0) (1 : Int).toNat) ∧ (((ρ.z.rl 0).length - (1 : Int).toNat : Nat) < (ρ.z.rl 0).length + 2) from ?_)
  exact ⟨by simp [modesL, atI], by omega⟩
def ivm512 (ρ : Rho) : Prop := (ρ.l 1002) = modesL (ρ.z.rl 0) (ρ.i .i64 1000).toNat
theorem vcm512_0 : VC TTm51 invm51 msm51 2 tm512 wm512_0 := by
  intro ρ kn hi hp
  have hi : ivm512 ρ := hi
  unfold ivm512 at hi
  have hF : ρ.z.F = hold.Φ := kn.F
  simp only [h_nil, h_cons, d_le, d_eq, d_not, d_var, d_lit, d_cel, d_leq, d_fn, d_and, d_iff, IE.den, LE.den, AL.den, lenV, true_and, and_true, pcm512_0, hF, pi1, pl2, pb1, pb2, pb3, pb4, pb5, pb6] at hp
  obtain ⟨p1, p2, p3, p4, p5⟩ := hp
  refine all_cons (show (((ρ.z.F.l 2 [.lst (ρ.z.rl 0)]).length : Nat) : Int) = (ρ.i .i64 1000) from ?_) (all_cons (show (ρ.z.F.l 2 [.lst (ρ.z.rl 0)]) = (ρ.l 1002) from ?_) (all_cons (show (((ρ.z.F.l 2 [.lst (ρ.z.rl 0)]).length : Nat) : Int) = (ρ.i .i64 1000) from ?_) (all_nil)))
  all_goals try simp only [hF, pi1, pl2, pb1, pb2, pb3, pb4, pb5, pb6]
  all_goals
    first
      | (rw [modes_len]; omega)
      | rw [hi, show (ρ.z.rl 0).length = (ρ.i .i64 1000).toNat by omega]
theorem vcm512_1 : VC TTm51 invm51 msm51 2 tm512 wm512_1 := by
  intro ρ kn hi hp
  have hi : ivm512 ρ := hi
  unfold ivm512 at hi
  have hF : ρ.z.F = hold.Φ := kn.F
  simp only [h_nil, h_cons, d_le, d_eq, d_not, d_var, d_lit, d_cel, d_leq, d_fn, d_and, d_iff, IE.den, LE.den, AL.den, lenV, true_and, and_true, pcm512_0, hF, pi1, pl2, pb1, pb2, pb3, pb4, pb5, pb6] at hp
  obtain ⟨p1, p2, p3, p4, p5⟩ := hp
  refine (show (((ρ.l 1002) ++ ([[Go.Value.int .i64 (clampK .i64 (intV (celV (ρ.z.rl 0) (ρ.i .i64 1000) 2)))]] : LV)) = modesL (ρ.z.rl 0) ((ρ.i .i64 1000) + (1 : Int)).toNat) ∧ (((ρ.z.rl 0).length - ((ρ.i .i64 1000) + (1 : Int)).toNat : Nat) < (ρ.z.rl 0).length - (ρ.i .i64 1000).toNat) from ?_)
  exact ⟨by rw [at_s (by omega), modesL, ← hi, at_z (by omega)], by omega⟩
theorem vcsm510 : ∀ v ∈ vwm51 0, VC TTm51 invm51 msm51 0 (startF 51 cM51.pat (.lit true :: cM51.pre)) v := all_cons vcm510_0 (all_nil)
theorem okm510 : cfgOk (startF 51 cM51.pat (.lit true :: cM51.pre)) = true := by kernel_rfl
theorem sgm510 : segL cM51.roms cM51 (seg TTm51 selm51 600 tmm51 (startF 51 cM51.pat (.lit true :: cM51.pre))) = (true, codesR tmm51 (views (seg TTm51 selm51 600 tmm51 (startF 51 cM51.pat (.lit true :: cM51.pre)))), vwm51 0) := by kernel_rfl
theorem vcsm511 : ∀ v ∈ vwm51 1, VC TTm51 invm51 msm51 1 tm511 v := all_cons vcm511_0 (all_nil)
theorem okm511 : cfgOk tm511 = true := by kernel_rfl
theorem sgm511 : segL cM51.roms cM51 (seg TTm51 selm51 600 tmm51 tm511) = (true, codesR tmm51 (views (seg TTm51 selm51 600 tmm51 tm511)), vwm51 1) := by kernel_rfl
theorem vcsm512 : ∀ v ∈ vwm51 2, VC TTm51 invm51 msm51 2 tm512 v := all_cons vcm512_0 (all_cons vcm512_1 (all_nil))
theorem okm512 : cfgOk tm512 = true := by kernel_rfl
theorem sgm512 : segL cM51.roms cM51 (seg TTm51 selm51 600 tmm51 tm512) = (true, codesR tmm51 (views (seg TTm51 selm51 600 tmm51 tm512)), vwm51 2) := by kernel_rfl
theorem lnm510 : ∀ ρ, Known TTm51 (startF 51 cM51.pat (.lit true :: cM51.pre)) ρ → invm51 0 ρ.lt → Holds ρ (leanOf (Cfg.pc (startF 51 cM51.pat (.lit true :: cM51.pre)))) := by
  intro ρ _ _
  exact (show Holds ρ [] from fun p hp => by cases hp)
theorem lnm511 : ∀ ρ, Known TTm51 tm511 ρ → invm51 1 ρ.lt → Holds ρ (leanOf (Cfg.pc tm511)) := by
  intro ρ _ _
  exact (show Holds ρ [] from fun p hp => by cases hp)
theorem lnm512 : ∀ ρ, Known TTm51 tm512 ρ → invm51 2 ρ.lt → Holds ρ (leanOf (Cfg.pc tm512)) := by
  intro ρ _ _
  exact (show Holds ρ [] from fun p hp => by cases hp)
theorem told_m51 : Sx.Told hold.Φ cM51 := by
  refine told_of (cs := []) (all_nil) (sel := selm51) 600 tmm51 invm51 msm51 vwm51 0 (pc0 := (.lit true :: cM51.pre)) (by kernel_rfl) (by kernel_rfl) (by kernel_rfl) (post_modes 51) ?_ ?_ ?_ rfl (fun ρ _ h => h.cons (p := .lit true) (by simp only [BE.den])) (fun _ _ _ _ => trivial) ?_
  · intro k C h
    have := lk_mem h
    simp only [tmm51, List.mem_cons, Prod.mk.injEq, List.not_mem_nil, or_false] at this
    rcases this with ⟨rfl, rfl⟩ | ⟨rfl, rfl⟩ | ⟨rfl, rfl⟩
    · exact okm510
    · exact okm511
    · exact okm512
  · intro k C h
    have := lk_mem h
    simp only [tmm51, List.mem_cons, Prod.mk.injEq, List.not_mem_nil, or_false] at this
    rcases this with ⟨rfl, rfl⟩ | ⟨rfl, rfl⟩ | ⟨rfl, rfl⟩
    · exact sgm510
    · exact sgm511
    · exact sgm512
  · intro k C h
    have := lk_mem h
    simp only [tmm51, List.mem_cons, Prod.mk.injEq, List.not_mem_nil, or_false] at this
    rcases this with ⟨rfl, rfl⟩ | ⟨rfl, rfl⟩ | ⟨rfl, rfl⟩
    · exact vcsm510
    · exact vcsm511
    · exact vcsm512
  · intro k C h
    have := lk_mem h
    simp only [tmm51, List.mem_cons, Prod.mk.injEq, List.not_mem_nil, or_false] at this
    rcases this with ⟨rfl, rfl⟩ | ⟨rfl, rfl⟩ | ⟨rfl, rfl⟩
    · exact lnm510
    · exact lnm511
    · exact lnm512
theorem told_m86z : Sx.Told hold.Φ cM86z := told_auto (cs := []) (all_nil) 4000 (by kernel_rfl) (by kernel_rfl) (by kernel_rfl) (post_nil rfl) (by kernel_rfl) (by kernel_rfl)
theorem told_m51z : Sx.Told hold.Φ cM51z := told_auto (cs := []) (all_nil) 4000 (by kernel_rfl) (by kernel_rfl) (by kernel_rfl) (post_nil rfl) (by kernel_rfl) (by kernel_rfl)
end Go.Proofs.YteblnjgghbclpaaDoor.hold
