/- Layer stat: learning, told. No condition. -/
import Derived.Test.YtjgkaimgocnkmabGa
set_option linter.unusedVariables false
set_option linter.unusedSimpArgs false
set_option linter.deprecated false
namespace Go.Proofs.Ytjgkaimgocnkmab.stat
open Go Go.Proofs.Ytjgkaimgocnkmab.Sx
noncomputable section
abbrev TTfold : Tab := T stat.Φ cFold.roms [cRight]
def tfold1 : Cfg := { top := ⟨72, over (opqS 10000 21) [(0, (SV.bool (BE.var 1000))), (1, (SV.func (Go.Fn.func 73) [] [])), (9, (SV.rom 0 (IE.lit 0) (IE.len (LE.rom 0)) none)), (10, (SV.int .i64 (IE.len (LE.rom 0)))), (11, (SV.int .i64 (IE.var .i64 1001)))], ogt (loopTodo (bodyOf (T stat.Φ [] []) 72) 0), [], false, none⟩, rest := [], heap := [], next := 1, pc := .lit true :: ([] ++ [(BE.le (IE.lit 0) (IE.var .i64 1001)), (BE.le (IE.var .i64 1001) (IE.len (LE.rom 0)))]) }
def tmfold : List (Nat × Cfg) := [(0, startF 72 cFold.pat [.lit true]), (1, tfold1)]
def selfold : Sel := [(72, 1, 0, 1)]
def wfold0_0 : VW := (VW.cut 1 [(BE.lit true)] (Sx.Sub.mk [(.i64, (1001, (IE.lit 0)))] [(1000, (BE.var 1))] [] [] [] []))
def vwfold0 : List VW := [wfold0_0]
def pcfold1_0 : List BE := [(BE.lit true), (BE.le (IE.lit 0) (IE.var .i64 1001)), (BE.le (IE.var .i64 1001) (IE.len (LE.rom 0)))]
def pcfold1_1 : List BE := ((BE.not (BE.le (IE.len (LE.rom 0)) (IE.var .i64 1001))) :: pcfold1_0)
def wfold1_0 : VW := (VW.done ((BE.le (IE.len (LE.rom 0)) (IE.var .i64 1001)) :: pcfold1_0) (some [(G.b (BE.and (BE.var 1) (BE.fn 1 (AL.lst (LE.rom 0) AL.nil))) (BE.var 1000))]))
def wfold1_1 : VW := (VW.cut 1 ((BE.var 1000) :: pcfold1_1) (Sx.Sub.mk [(.i64, (1001, (IE.add (IE.var .i64 1001) (IE.lit 1))))] [(1000, (BE.fn 3 (AL.int .i64 (IE.cel .i64 (LE.rom 0) (IE.var .i64 1001) 0) (AL.bool (BE.cel (LE.rom 0) (IE.var .i64 1001) 1) (AL.int .i64 (IE.cel .i64 (LE.rom 0) (IE.var .i64 1001) 2) (AL.int .i64 (IE.cel .i64 (LE.rom 0) (IE.var .i64 1001) 3) AL.nil))))))] [] [] [] []))
def wfold1_2 : VW := (VW.cut 1 ((BE.not (BE.var 1000)) :: pcfold1_1) (Sx.Sub.mk [(.i64, (1001, (IE.add (IE.var .i64 1001) (IE.lit 1))))] [(1000, (BE.lit false))] [] [] [] []))
def vwfold1 : List VW := [wfold1_0, wfold1_1, wfold1_2]
def vwfold : Nat → List VW
  | 0 => vwfold0
  | 1 => vwfold1
  | _ => []
end
def invfold : Nat → Lt → Prop
  | 1, l => (l.b 1000) = ((l.b 1) && allR (l.z.rl 0) (l.i .i64 1001).toNat)
  | _, _ => True
def msfold : Nat → Lt → Nat
  | 0, l => (l.z.rl 0).length + 1
  | 1, l => (l.z.rl 0).length - (l.i .i64 1001).toNat
  | _, _ => 0
theorem vcfold0_0 : VC TTfold invfold msfold 0 (startF 72 cFold.pat [.lit true]) wfold0_0 := by
  intro ρ kn hi hp
  have hF : ρ.z.F = stat.Φ := kn.F
  simp only [h_nil, h_cons, d_le, d_eq, d_not, d_var, d_lit, d_cel, d_leq, d_fn, d_and, d_iff, IE.den, LE.den, AL.den, lenV, true_and, and_true, hF, pb1, pb2, pb3, pb4, pl2, pl4] at hp
  refine (show ((ρ.b 1) = ((ρ.b 1) && allR (ρ.z.rl 0) (0 : Int).toNat)) ∧ (((ρ.z.rl 0).length - (0 : Int).toNat : Nat) < (ρ.z.rl 0).length + 1) from ?_)
  exact ⟨by simp [allR], by omega⟩
def ivfold1 (ρ : Rho) : Prop := (ρ.b 1000) = ((ρ.b 1) && allR (ρ.z.rl 0) (ρ.i .i64 1001).toNat)
theorem vcfold1_0 : VC TTfold invfold msfold 1 tfold1 wfold1_0 := by
  intro ρ kn hi hp
  have hi : ivfold1 ρ := hi
  unfold ivfold1 at hi
  have hF : ρ.z.F = stat.Φ := kn.F
  simp only [h_nil, h_cons, d_le, d_eq, d_not, d_var, d_lit, d_cel, d_leq, d_fn, d_and, d_iff, IE.den, LE.den, AL.den, lenV, true_and, and_true, pcfold1_0, hF, pb1, pb2, pb3, pb4, pl2, pl4] at hp
  obtain ⟨p1, p2, p3⟩ := hp
  refine all_cons (show ((ρ.b 1) && (ρ.z.F.b 1 [.lst (ρ.z.rl 0)])) = (ρ.b 1000) from ?_) (all_nil)
  all_goals try simp only [hF, pb1, pb2, pb3, pb4, pl2, pl4]
  rw [hi, show (ρ.i .i64 1001).toNat = (ρ.z.rl 0).length by omega]
theorem vcfold1_1 : VC TTfold invfold msfold 1 tfold1 wfold1_1 := by
  intro ρ kn hi hp
  have hi : ivfold1 ρ := hi
  unfold ivfold1 at hi
  have hF : ρ.z.F = stat.Φ := kn.F
  simp only [h_nil, h_cons, d_le, d_eq, d_not, d_var, d_lit, d_cel, d_leq, d_fn, d_and, d_iff, IE.den, LE.den, AL.den, lenV, true_and, and_true, pcfold1_1, pcfold1_0, hF, pb1, pb2, pb3, pb4, pl2, pl4] at hp
  obtain ⟨p1, p2, p3, p4⟩ := hp
  refine (show ((ρ.z.F.b 3 [.int .i64 (clampK .i64 (intV (celV (ρ.z.rl 0) (ρ.i .i64 1001) 0))), .bool (boolV (celV (ρ.z.rl 0) (ρ.i .i64 1001) 1)), .int .i64 (clampK .i64 (intV (celV (ρ.z.rl 0) (ρ.i .i64 1001) 2))), .int .i64 (clampK .i64 (intV (celV (ρ.z.rl 0) (ρ.i .i64 1001) 3)))]) = ((ρ.b 1) && allR (ρ.z.rl 0) ((ρ.i .i64 1001) + (1 : Int)).toNat)) ∧ (((ρ.z.rl 0).length - ((ρ.i .i64 1001) + (1 : Int)).toNat : Nat) < (ρ.z.rl 0).length - (ρ.i .i64 1001).toNat) from ?_)
  simp only [hF, pb1, pb2, pb3, pb4, pl2, pl4]
  refine ⟨?_, by omega⟩
  rw [show (ρ.i .i64 1001 + 1).toNat = (ρ.i .i64 1001).toNat + 1 by omega, allR, ← Bool.and_assoc, ← hi, p1, Bool.true_and]
  unfold rightE atI atB
  rw [Int.toNat_of_nonneg (by omega)]
theorem vcfold1_2 : VC TTfold invfold msfold 1 tfold1 wfold1_2 := by
  intro ρ kn hi hp
  have hi : ivfold1 ρ := hi
  unfold ivfold1 at hi
  have hF : ρ.z.F = stat.Φ := kn.F
  simp only [h_nil, h_cons, d_le, d_eq, d_not, d_var, d_lit, d_cel, d_leq, d_fn, d_and, d_iff, IE.den, LE.den, AL.den, lenV, true_and, and_true, pcfold1_1, pcfold1_0, hF, pb1, pb2, pb3, pb4, pl2, pl4] at hp
  obtain ⟨p1, p2, p3, p4⟩ := hp
  refine (show (false = ((ρ.b 1) && allR (ρ.z.rl 0) ((ρ.i .i64 1001) + (1 : Int)).toNat)) ∧ (((ρ.z.rl 0).length - ((ρ.i .i64 1001) + (1 : Int)).toNat : Nat) < (ρ.z.rl 0).length - (ρ.i .i64 1001).toNat) from ?_)
  refine ⟨?_, by omega⟩
  rw [show (ρ.i .i64 1001 + 1).toNat = (ρ.i .i64 1001).toNat + 1 by omega, allR, ← Bool.and_assoc, ← hi, Bool.eq_false_iff.2 p1]
  rfl
theorem vcsfold0 : ∀ v ∈ vwfold 0, VC TTfold invfold msfold 0 (startF 72 cFold.pat [.lit true]) v := all_cons vcfold0_0 (all_nil)
theorem okfold0 : cfgOk (startF 72 cFold.pat [.lit true]) = true := by kernel_rfl
theorem sgfold0 : segL cFold.roms cFold (seg TTfold selfold 600 tmfold (startF 72 cFold.pat [.lit true])) = (true, codesR tmfold (views (seg TTfold selfold 600 tmfold (startF 72 cFold.pat [.lit true]))), vwfold 0) := by kernel_rfl
theorem vcsfold1 : ∀ v ∈ vwfold 1, VC TTfold invfold msfold 1 tfold1 v := all_cons vcfold1_0 (all_cons vcfold1_1 (all_cons vcfold1_2 (all_nil)))
theorem okfold1 : cfgOk tfold1 = true := by kernel_rfl
theorem sgfold1 : segL cFold.roms cFold (seg TTfold selfold 600 tmfold tfold1) = (true, codesR tmfold (views (seg TTfold selfold 600 tmfold tfold1)), vwfold 1) := by kernel_rfl
theorem lnfold0 : ∀ ρ, Known TTfold (startF 72 cFold.pat [.lit true]) ρ → invfold 0 ρ.lt → Holds ρ (leanOf (Cfg.pc (startF 72 cFold.pat [.lit true]))) := by
  intro ρ _ _
  exact (show Holds ρ [] from fun p hp => by cases hp)
theorem lnfold1 : ∀ ρ, Known TTfold tfold1 ρ → invfold 1 ρ.lt → Holds ρ (leanOf (Cfg.pc tfold1)) := by
  intro ρ _ _
  exact (show Holds ρ [] from fun p hp => by cases hp)
theorem told_fold : Sx.Told stat.Φ cFold := by
  refine told_of (cs := [cRight]) (all_cons told_right (all_nil)) (sel := selfold) 600 tmfold invfold msfold vwfold 0 (pc0 := [.lit true]) (by kernel_rfl) (by kernel_rfl) (by kernel_rfl) (post_nil rfl) ?_ ?_ ?_ rfl (fun ρ _ _ => by simp [Holds, BE.den]) (fun _ _ _ _ => trivial) ?_
  · intro k C h
    have := lk_mem h
    simp only [tmfold, List.mem_cons, Prod.mk.injEq, List.not_mem_nil, or_false] at this
    rcases this with ⟨rfl, rfl⟩ | ⟨rfl, rfl⟩
    · exact okfold0
    · exact okfold1
  · intro k C h
    have := lk_mem h
    simp only [tmfold, List.mem_cons, Prod.mk.injEq, List.not_mem_nil, or_false] at this
    rcases this with ⟨rfl, rfl⟩ | ⟨rfl, rfl⟩
    · exact sgfold0
    · exact sgfold1
  · intro k C h
    have := lk_mem h
    simp only [tmfold, List.mem_cons, Prod.mk.injEq, List.not_mem_nil, or_false] at this
    rcases this with ⟨rfl, rfl⟩ | ⟨rfl, rfl⟩
    · exact vcsfold0
    · exact vcsfold1
  · intro k C h
    have := lk_mem h
    simp only [tmfold, List.mem_cons, Prod.mk.injEq, List.not_mem_nil, or_false] at this
    rcases this with ⟨rfl, rfl⟩ | ⟨rfl, rfl⟩
    · exact lnfold0
    · exact lnfold1
noncomputable section
abbrev TTsites1 : Tab := T stat.Φ cSites1.roms [cWorks, cRight, cSi, cFrame]
def wsites1_0 : VW := (VW.done [(BE.lit true), (BE.fn 2 (AL.int .i64 (IE.var .i64 1) (AL.int .i64 (IE.var .i64 2) (AL.int .i64 (IE.var .i64 3) AL.nil))))] (some []))
def vwsites1 : List VW := [wsites1_0]
end
theorem vcsites1_0 : VD TTsites1 (st0 cSites1) wsites1_0 := by
  intro ρ kn hp
  exact all_nil
theorem told_sites1 : Sx.Told stat.Φ cSites1 := told_vw (cs := [cWorks, cRight, cSi, cFrame]) (all_cons told_works (all_cons told_right (all_cons told_si (all_cons told_frame (all_nil))))) 4000 vwsites1 (by kernel_rfl) (by kernel_rfl) (by kernel_rfl) post_sites (by kernel_rfl) (by kernel_rfl) (all_cons vcsites1_0 (all_nil))
theorem told_sites2 : Sx.Told stat.Φ cSites2 := told_auto (cs := [cWorks, cRight, cSi, cFrame]) (all_cons told_works (all_cons told_right (all_cons told_si (all_cons told_frame (all_nil))))) 4000 (by kernel_rfl) (by kernel_rfl) (by kernel_rfl) (post_nil rfl) (by kernel_rfl) (by kernel_rfl)
noncomputable section
abbrev TTrightL : Tab := T stat.Φ cRightL.roms [cFold]
def pcrightL_0 : List BE := [(BE.lit true)]
def wrightL_0 : VW := (VW.done ((BE.eq (IE.len (LE.rom 0)) (IE.var .i64 1)) :: pcrightL_0) (some []))
def wrightL_1 : VW := (VW.done ((BE.not (BE.eq (IE.len (LE.rom 0)) (IE.var .i64 1))) :: pcrightL_0) (some []))
def vwrightL : List VW := [wrightL_0, wrightL_1]
end
theorem vcrightL_0 : VD TTrightL (st0 cRightL) wrightL_0 := by
  intro ρ kn hp
  exact all_nil
theorem vcrightL_1 : VD TTrightL (st0 cRightL) wrightL_1 := by
  intro ρ kn hp
  exact all_nil
theorem told_rightL : Sx.Told stat.Φ cRightL := told_vw (cs := [cFold]) (all_cons told_fold (all_nil)) 4000 vwrightL (by kernel_rfl) (by kernel_rfl) (by kernel_rfl) (post_nil rfl) (by kernel_rfl) (by kernel_rfl) (all_cons vcrightL_0 (all_cons vcrightL_1 (all_nil)))
noncomputable section
abbrev TTsame : Tab := T stat.Φ cSame.roms []
def tsame1 : Cfg := { top := ⟨20, over (opqS 10000 26) [(0, (SV.rom 0 (IE.lit 0) (IE.len (LE.rom 0)) none)), (1, (SV.rom 1 (IE.lit 0) (IE.len (LE.rom 1)) none)), (5, (SV.int .i64 (IE.var .i64 1000)))], ogt (loopTodo (bodyOf (T stat.Φ [] []) 20) 0), [], false, none⟩, rest := [], heap := [], next := 1, pc := .lit true :: ([] ++ [(BE.eq (IE.len (LE.rom 0)) (IE.len (LE.rom 1))), (BE.le (IE.lit 0) (IE.var .i64 1000)), (BE.le (IE.var .i64 1000) (IE.len (LE.rom 0))), (BE.le (IE.var .i64 1000) (IE.len (LE.rom 1)))]) }
def tmsame : List (Nat × Cfg) := [(0, startF 20 cSame.pat [.lit true]), (1, tsame1)]
def selsame : Sel := [(20, 1, 0, 1)]
def pcsame0_0 : List BE := [(BE.lit true)]
def wsame0_0 : VW := (VW.cut 1 ((BE.eq (IE.len (LE.rom 0)) (IE.len (LE.rom 1))) :: pcsame0_0) (Sx.Sub.mk [(.i64, (1000, (IE.lit 0)))] [] [] [] [] []))
def wsame0_1 : VW := (VW.done ((BE.not (BE.eq (IE.len (LE.rom 0)) (IE.len (LE.rom 1)))) :: pcsame0_0) (some [(G.b (BE.leq (LE.rom 0) (LE.rom 1)) (BE.lit false))]))
def vwsame0 : List VW := [wsame0_0, wsame0_1]
def pcsame1_0 : List BE := [(BE.lit true), (BE.eq (IE.len (LE.rom 0)) (IE.len (LE.rom 1))), (BE.le (IE.lit 0) (IE.var .i64 1000)), (BE.le (IE.var .i64 1000) (IE.len (LE.rom 0))), (BE.le (IE.var .i64 1000) (IE.len (LE.rom 1)))]
def pcsame1_1 : List BE := ((BE.not (BE.le (IE.len (LE.rom 0)) (IE.var .i64 1000))) :: pcsame1_0)
def pcsame1_2 : List BE := ((BE.eq (IE.cel .i64 (LE.rom 0) (IE.var .i64 1000) 0) (IE.cel .i64 (LE.rom 1) (IE.var .i64 1000) 0)) :: pcsame1_1)
def pcsame1_3 : List BE := ((BE.cel (LE.rom 0) (IE.var .i64 1000) 1) :: pcsame1_2)
def pcsame1_4 : List BE := ((BE.not (BE.cel (LE.rom 0) (IE.var .i64 1000) 1)) :: pcsame1_2)
def pcsame1_5 : List BE := ((BE.cel (LE.rom 1) (IE.var .i64 1000) 1) :: pcsame1_3)
def pcsame1_6 : List BE := ((BE.not (BE.cel (LE.rom 1) (IE.var .i64 1000) 1)) :: pcsame1_4)
def pcsame1_7 : List BE := ((BE.eq (IE.cel .i64 (LE.rom 0) (IE.var .i64 1000) 2) (IE.cel .i64 (LE.rom 1) (IE.var .i64 1000) 2)) :: pcsame1_5)
def pcsame1_8 : List BE := ((BE.eq (IE.cel .i64 (LE.rom 0) (IE.var .i64 1000) 2) (IE.cel .i64 (LE.rom 1) (IE.var .i64 1000) 2)) :: pcsame1_6)
def wsame1_0 : VW := (VW.done ((BE.le (IE.len (LE.rom 0)) (IE.var .i64 1000)) :: pcsame1_0) (some [(G.b (BE.leq (LE.rom 0) (LE.rom 1)) (BE.lit true))]))
def wsame1_1 : VW := (VW.cut 1 ((BE.eq (IE.cel .i64 (LE.rom 0) (IE.var .i64 1000) 3) (IE.cel .i64 (LE.rom 1) (IE.var .i64 1000) 3)) :: pcsame1_7) (Sx.Sub.mk [(.i64, (1000, (IE.add (IE.var .i64 1000) (IE.lit 1))))] [] [] [] [] []))
def wsame1_2 : VW := (VW.done ((BE.not (BE.eq (IE.cel .i64 (LE.rom 0) (IE.var .i64 1000) 3) (IE.cel .i64 (LE.rom 1) (IE.var .i64 1000) 3))) :: pcsame1_7) (some [(G.b (BE.leq (LE.rom 0) (LE.rom 1)) (BE.lit false))]))
def wsame1_3 : VW := (VW.done ((BE.not (BE.eq (IE.cel .i64 (LE.rom 0) (IE.var .i64 1000) 2) (IE.cel .i64 (LE.rom 1) (IE.var .i64 1000) 2))) :: pcsame1_5) (some [(G.b (BE.leq (LE.rom 0) (LE.rom 1)) (BE.lit false))]))
def wsame1_4 : VW := (VW.done ((BE.not (BE.cel (LE.rom 1) (IE.var .i64 1000) 1)) :: pcsame1_3) (some [(G.b (BE.leq (LE.rom 0) (LE.rom 1)) (BE.lit false))]))
def wsame1_5 : VW := (VW.done ((BE.cel (LE.rom 1) (IE.var .i64 1000) 1) :: pcsame1_4) (some [(G.b (BE.leq (LE.rom 0) (LE.rom 1)) (BE.lit false))]))
def wsame1_6 : VW := (VW.cut 1 ((BE.eq (IE.cel .i64 (LE.rom 0) (IE.var .i64 1000) 3) (IE.cel .i64 (LE.rom 1) (IE.var .i64 1000) 3)) :: pcsame1_8) (Sx.Sub.mk [(.i64, (1000, (IE.add (IE.var .i64 1000) (IE.lit 1))))] [] [] [] [] []))
def wsame1_7 : VW := (VW.done ((BE.not (BE.eq (IE.cel .i64 (LE.rom 0) (IE.var .i64 1000) 3) (IE.cel .i64 (LE.rom 1) (IE.var .i64 1000) 3))) :: pcsame1_8) (some [(G.b (BE.leq (LE.rom 0) (LE.rom 1)) (BE.lit false))]))
def wsame1_8 : VW := (VW.done ((BE.not (BE.eq (IE.cel .i64 (LE.rom 0) (IE.var .i64 1000) 2) (IE.cel .i64 (LE.rom 1) (IE.var .i64 1000) 2))) :: pcsame1_6) (some [(G.b (BE.leq (LE.rom 0) (LE.rom 1)) (BE.lit false))]))
def wsame1_9 : VW := (VW.done ((BE.not (BE.eq (IE.cel .i64 (LE.rom 0) (IE.var .i64 1000) 0) (IE.cel .i64 (LE.rom 1) (IE.var .i64 1000) 0))) :: pcsame1_1) (some [(G.b (BE.leq (LE.rom 0) (LE.rom 1)) (BE.lit false))]))
def vwsame1 : List VW := [wsame1_0, wsame1_1, wsame1_2, wsame1_3, wsame1_4, wsame1_5, wsame1_6, wsame1_7, wsame1_8, wsame1_9]
def vwsame : Nat → List VW
  | 0 => vwsame0
  | 1 => vwsame1
  | _ => []
end
def invsame : Nat → Lt → Prop
  | 1, l => (l.z.rl 0).take (l.i .i64 1000).toNat = (l.z.rl 1).take (l.i .i64 1000).toNat
  | _, _ => True
def mssame : Nat → Lt → Nat
  | 0, l => (l.z.rl 0).length + 1
  | 1, l => (l.z.rl 0).length - (l.i .i64 1000).toNat
  | _, _ => 0
theorem vcsame0_0 : VC TTsame invsame mssame 0 (startF 20 cSame.pat [.lit true]) wsame0_0 := by
  intro ρ kn hi hp
  have hF : ρ.z.F = stat.Φ := kn.F
  simp only [h_nil, h_cons, d_le, d_eq, d_not, d_var, d_lit, d_cel, d_leq, d_fn, d_and, d_iff, IE.den, LE.den, AL.den, lenV, true_and, and_true, pcsame0_0, hF, pb1, pb2, pb3, pb4, pl2, pl4] at hp
  have p1 := hp
  refine (show ((ρ.z.rl 0).take (0 : Int).toNat = (ρ.z.rl 1).take (0 : Int).toNat) ∧ (((ρ.z.rl 0).length - (0 : Int).toNat : Nat) < (ρ.z.rl 0).length + 1) from ?_)
  exact ⟨rfl, by omega⟩
theorem vcsame0_1 : VC TTsame invsame mssame 0 (startF 20 cSame.pat [.lit true]) wsame0_1 := by
  intro ρ kn hi hp
  have hF : ρ.z.F = stat.Φ := kn.F
  simp only [h_nil, h_cons, d_le, d_eq, d_not, d_var, d_lit, d_cel, d_leq, d_fn, d_and, d_iff, IE.den, LE.den, AL.den, lenV, true_and, and_true, pcsame0_0, hF, pb1, pb2, pb3, pb4, pl2, pl4] at hp
  have p1 := hp
  refine all_cons (show (eqV (ρ.z.rl 0) (ρ.z.rl 1)) = false from ?_) (all_nil)
  all_goals try simp only [hF, pb1, pb2, pb3, pb4, pl2, pl4]
  exact eqV_f fun hh => p1 (by rw [hh])
def ivsame1 (ρ : Rho) : Prop := (ρ.z.rl 0).take (ρ.i .i64 1000).toNat = (ρ.z.rl 1).take (ρ.i .i64 1000).toNat
theorem vcsame1_0 : VC TTsame invsame mssame 1 tsame1 wsame1_0 := by
  intro ρ kn hi hp
  have hi : ivsame1 ρ := hi
  unfold ivsame1 at hi
  have hF : ρ.z.F = stat.Φ := kn.F
  simp only [h_nil, h_cons, d_le, d_eq, d_not, d_var, d_lit, d_cel, d_leq, d_fn, d_and, d_iff, IE.den, LE.den, AL.den, lenV, true_and, and_true, pcsame1_0, hF, pb1, pb2, pb3, pb4, pl2, pl4] at hp
  obtain ⟨p1, p2, p3, p4, p5⟩ := hp
  refine all_cons (show (eqV (ρ.z.rl 0) (ρ.z.rl 1)) = true from ?_) (all_nil)
  all_goals try simp only [hF, pb1, pb2, pb3, pb4, pl2, pl4]
  exact eqV_t (same_end hi (by omega) (by omega))
theorem vcsame1_1 : VC TTsame invsame mssame 1 tsame1 wsame1_1 := by
  intro ρ kn hi hp
  have hi : ivsame1 ρ := hi
  unfold ivsame1 at hi
  have hF : ρ.z.F = stat.Φ := kn.F
  simp only [h_nil, h_cons, d_le, d_eq, d_not, d_var, d_lit, d_cel, d_leq, d_fn, d_and, d_iff, IE.den, LE.den, AL.den, lenV, true_and, and_true, pcsame1_7, pcsame1_5, pcsame1_3, pcsame1_2, pcsame1_1, pcsame1_0, hF, pb1, pb2, pb3, pb4, pl2, pl4] at hp
  obtain ⟨p1, p2, p3, p4, p5, p6, p7, p8, p9, p10⟩ := hp
  refine (show ((ρ.z.rl 0).take ((ρ.i .i64 1000) + (1 : Int)).toNat = (ρ.z.rl 1).take ((ρ.i .i64 1000) + (1 : Int)).toNat) ∧ (((ρ.z.rl 0).length - ((ρ.i .i64 1000) + (1 : Int)).toNat : Nat) < (ρ.z.rl 0).length - (ρ.i .i64 1000).toNat) from ?_)
  exact ⟨same_s (ks := ks4) rfl (kn.rom 0 _ _ rfl) (kn.rom 1 _ _ rfl) (by omega) (by omega) (by omega) hi ⟨by assumption, by simp_all, by assumption, by assumption, trivial⟩, by omega⟩
theorem vcsame1_2 : VC TTsame invsame mssame 1 tsame1 wsame1_2 := by
  intro ρ kn hi hp
  have hi : ivsame1 ρ := hi
  unfold ivsame1 at hi
  have hF : ρ.z.F = stat.Φ := kn.F
  simp only [h_nil, h_cons, d_le, d_eq, d_not, d_var, d_lit, d_cel, d_leq, d_fn, d_and, d_iff, IE.den, LE.den, AL.den, lenV, true_and, and_true, pcsame1_7, pcsame1_5, pcsame1_3, pcsame1_2, pcsame1_1, pcsame1_0, hF, pb1, pb2, pb3, pb4, pl2, pl4] at hp
  obtain ⟨p1, p2, p3, p4, p5, p6, p7, p8, p9, p10⟩ := hp
  refine all_cons (show (eqV (ρ.z.rl 0) (ρ.z.rl 1)) = false from ?_) (all_nil)
  all_goals try simp only [hF, pb1, pb2, pb3, pb4, pl2, pl4]
  exact eqV_f fun hh => by first | (rw [hh] at p1; exact p1 rfl) | (rw [hh] at p1; exact p1 p2) | (rw [hh] at p2; exact p1 p2) | (rw [hh] at p2; exact p2 p1)
theorem vcsame1_3 : VC TTsame invsame mssame 1 tsame1 wsame1_3 := by
  intro ρ kn hi hp
  have hi : ivsame1 ρ := hi
  unfold ivsame1 at hi
  have hF : ρ.z.F = stat.Φ := kn.F
  simp only [h_nil, h_cons, d_le, d_eq, d_not, d_var, d_lit, d_cel, d_leq, d_fn, d_and, d_iff, IE.den, LE.den, AL.den, lenV, true_and, and_true, pcsame1_5, pcsame1_3, pcsame1_2, pcsame1_1, pcsame1_0, hF, pb1, pb2, pb3, pb4, pl2, pl4] at hp
  obtain ⟨p1, p2, p3, p4, p5, p6, p7, p8, p9⟩ := hp
  refine all_cons (show (eqV (ρ.z.rl 0) (ρ.z.rl 1)) = false from ?_) (all_nil)
  all_goals try simp only [hF, pb1, pb2, pb3, pb4, pl2, pl4]
  exact eqV_f fun hh => by first | (rw [hh] at p1; exact p1 rfl) | (rw [hh] at p1; exact p1 p2) | (rw [hh] at p2; exact p1 p2) | (rw [hh] at p2; exact p2 p1)
theorem vcsame1_4 : VC TTsame invsame mssame 1 tsame1 wsame1_4 := by
  intro ρ kn hi hp
  have hi : ivsame1 ρ := hi
  unfold ivsame1 at hi
  have hF : ρ.z.F = stat.Φ := kn.F
  simp only [h_nil, h_cons, d_le, d_eq, d_not, d_var, d_lit, d_cel, d_leq, d_fn, d_and, d_iff, IE.den, LE.den, AL.den, lenV, true_and, and_true, pcsame1_3, pcsame1_2, pcsame1_1, pcsame1_0, hF, pb1, pb2, pb3, pb4, pl2, pl4] at hp
  obtain ⟨p1, p2, p3, p4, p5, p6, p7, p8⟩ := hp
  refine all_cons (show (eqV (ρ.z.rl 0) (ρ.z.rl 1)) = false from ?_) (all_nil)
  all_goals try simp only [hF, pb1, pb2, pb3, pb4, pl2, pl4]
  exact eqV_f fun hh => by first | (rw [hh] at p1; exact p1 rfl) | (rw [hh] at p1; exact p1 p2) | (rw [hh] at p2; exact p1 p2) | (rw [hh] at p2; exact p2 p1)
theorem vcsame1_5 : VC TTsame invsame mssame 1 tsame1 wsame1_5 := by
  intro ρ kn hi hp
  have hi : ivsame1 ρ := hi
  unfold ivsame1 at hi
  have hF : ρ.z.F = stat.Φ := kn.F
  simp only [h_nil, h_cons, d_le, d_eq, d_not, d_var, d_lit, d_cel, d_leq, d_fn, d_and, d_iff, IE.den, LE.den, AL.den, lenV, true_and, and_true, pcsame1_4, pcsame1_2, pcsame1_1, pcsame1_0, hF, pb1, pb2, pb3, pb4, pl2, pl4] at hp
  obtain ⟨p1, p2, p3, p4, p5, p6, p7, p8⟩ := hp
  refine all_cons (show (eqV (ρ.z.rl 0) (ρ.z.rl 1)) = false from ?_) (all_nil)
  all_goals try simp only [hF, pb1, pb2, pb3, pb4, pl2, pl4]
  exact eqV_f fun hh => by first | (rw [hh] at p1; exact p1 rfl) | (rw [hh] at p1; exact p1 p2) | (rw [hh] at p2; exact p1 p2) | (rw [hh] at p2; exact p2 p1)
theorem vcsame1_6 : VC TTsame invsame mssame 1 tsame1 wsame1_6 := by
  intro ρ kn hi hp
  have hi : ivsame1 ρ := hi
  unfold ivsame1 at hi
  have hF : ρ.z.F = stat.Φ := kn.F
  simp only [h_nil, h_cons, d_le, d_eq, d_not, d_var, d_lit, d_cel, d_leq, d_fn, d_and, d_iff, IE.den, LE.den, AL.den, lenV, true_and, and_true, pcsame1_8, pcsame1_6, pcsame1_4, pcsame1_2, pcsame1_1, pcsame1_0, hF, pb1, pb2, pb3, pb4, pl2, pl4] at hp
  obtain ⟨p1, p2, p3, p4, p5, p6, p7, p8, p9, p10⟩ := hp
  refine (show ((ρ.z.rl 0).take ((ρ.i .i64 1000) + (1 : Int)).toNat = (ρ.z.rl 1).take ((ρ.i .i64 1000) + (1 : Int)).toNat) ∧ (((ρ.z.rl 0).length - ((ρ.i .i64 1000) + (1 : Int)).toNat : Nat) < (ρ.z.rl 0).length - (ρ.i .i64 1000).toNat) from ?_)
  exact ⟨same_s (ks := ks4) rfl (kn.rom 0 _ _ rfl) (kn.rom 1 _ _ rfl) (by omega) (by omega) (by omega) hi ⟨by assumption, by simp_all, by assumption, by assumption, trivial⟩, by omega⟩
theorem vcsame1_7 : VC TTsame invsame mssame 1 tsame1 wsame1_7 := by
  intro ρ kn hi hp
  have hi : ivsame1 ρ := hi
  unfold ivsame1 at hi
  have hF : ρ.z.F = stat.Φ := kn.F
  simp only [h_nil, h_cons, d_le, d_eq, d_not, d_var, d_lit, d_cel, d_leq, d_fn, d_and, d_iff, IE.den, LE.den, AL.den, lenV, true_and, and_true, pcsame1_8, pcsame1_6, pcsame1_4, pcsame1_2, pcsame1_1, pcsame1_0, hF, pb1, pb2, pb3, pb4, pl2, pl4] at hp
  obtain ⟨p1, p2, p3, p4, p5, p6, p7, p8, p9, p10⟩ := hp
  refine all_cons (show (eqV (ρ.z.rl 0) (ρ.z.rl 1)) = false from ?_) (all_nil)
  all_goals try simp only [hF, pb1, pb2, pb3, pb4, pl2, pl4]
  exact eqV_f fun hh => by first | (rw [hh] at p1; exact p1 rfl) | (rw [hh] at p1; exact p1 p2) | (rw [hh] at p2; exact p1 p2) | (rw [hh] at p2; exact p2 p1)
theorem vcsame1_8 : VC TTsame invsame mssame 1 tsame1 wsame1_8 := by
  intro ρ kn hi hp
  have hi : ivsame1 ρ := hi
  unfold ivsame1 at hi
  have hF : ρ.z.F = stat.Φ := kn.F
  simp only [h_nil, h_cons, d_le, d_eq, d_not, d_var, d_lit, d_cel, d_leq, d_fn, d_and, d_iff, IE.den, LE.den, AL.den, lenV, true_and, and_true, pcsame1_6, pcsame1_4, pcsame1_2, pcsame1_1, pcsame1_0, hF, pb1, pb2, pb3, pb4, pl2, pl4] at hp
  obtain ⟨p1, p2, p3, p4, p5, p6, p7, p8, p9⟩ := hp
  refine all_cons (show (eqV (ρ.z.rl 0) (ρ.z.rl 1)) = false from ?_) (all_nil)
  all_goals try simp only [hF, pb1, pb2, pb3, pb4, pl2, pl4]
  exact eqV_f fun hh => by first | (rw [hh] at p1; exact p1 rfl) | (rw [hh] at p1; exact p1 p2) | (rw [hh] at p2; exact p1 p2) | (rw [hh] at p2; exact p2 p1)
theorem vcsame1_9 : VC TTsame invsame mssame 1 tsame1 wsame1_9 := by
  intro ρ kn hi hp
  have hi : ivsame1 ρ := hi
  unfold ivsame1 at hi
  have hF : ρ.z.F = stat.Φ := kn.F
  simp only [h_nil, h_cons, d_le, d_eq, d_not, d_var, d_lit, d_cel, d_leq, d_fn, d_and, d_iff, IE.den, LE.den, AL.den, lenV, true_and, and_true, pcsame1_1, pcsame1_0, hF, pb1, pb2, pb3, pb4, pl2, pl4] at hp
  obtain ⟨p1, p2, p3, p4, p5, p6⟩ := hp
  refine all_cons (show (eqV (ρ.z.rl 0) (ρ.z.rl 1)) = false from ?_) (all_nil)
  all_goals try simp only [hF, pb1, pb2, pb3, pb4, pl2, pl4]
  exact eqV_f fun hh => by first | (rw [hh] at p1; exact p1 rfl) | (rw [hh] at p1; exact p1 p2) | (rw [hh] at p2; exact p1 p2) | (rw [hh] at p2; exact p2 p1)
theorem vcssame0 : ∀ v ∈ vwsame 0, VC TTsame invsame mssame 0 (startF 20 cSame.pat [.lit true]) v := all_cons vcsame0_0 (all_cons vcsame0_1 (all_nil))
theorem oksame0 : cfgOk (startF 20 cSame.pat [.lit true]) = true := by kernel_rfl
theorem sgsame0 : segL cSame.roms cSame (seg TTsame selsame 600 tmsame (startF 20 cSame.pat [.lit true])) = (true, codesR tmsame (views (seg TTsame selsame 600 tmsame (startF 20 cSame.pat [.lit true]))), vwsame 0) := by kernel_rfl
theorem vcssame1 : ∀ v ∈ vwsame 1, VC TTsame invsame mssame 1 tsame1 v := all_cons vcsame1_0 (all_cons vcsame1_1 (all_cons vcsame1_2 (all_cons vcsame1_3 (all_cons vcsame1_4 (all_cons vcsame1_5 (all_cons vcsame1_6 (all_cons vcsame1_7 (all_cons vcsame1_8 (all_cons vcsame1_9 (all_nil))))))))))
theorem oksame1 : cfgOk tsame1 = true := by kernel_rfl
theorem sgsame1 : segL cSame.roms cSame (seg TTsame selsame 600 tmsame tsame1) = (true, codesR tmsame (views (seg TTsame selsame 600 tmsame tsame1)), vwsame 1) := by kernel_rfl
theorem lnsame0 : ∀ ρ, Known TTsame (startF 20 cSame.pat [.lit true]) ρ → invsame 0 ρ.lt → Holds ρ (leanOf (Cfg.pc (startF 20 cSame.pat [.lit true]))) := by
  intro ρ _ _
  exact (show Holds ρ [] from fun p hp => by cases hp)
theorem lnsame1 : ∀ ρ, Known TTsame tsame1 ρ → invsame 1 ρ.lt → Holds ρ (leanOf (Cfg.pc tsame1)) := by
  intro ρ _ _
  exact (show Holds ρ [] from fun p hp => by cases hp)
theorem told_same : Sx.Told stat.Φ cSame := by
  refine told_of (cs := []) (all_nil) (sel := selsame) 600 tmsame invsame mssame vwsame 0 (pc0 := [.lit true]) (by kernel_rfl) (by kernel_rfl) (by kernel_rfl) (post_nil rfl) ?_ ?_ ?_ rfl (fun ρ _ _ => by simp [Holds, BE.den]) (fun _ _ _ _ => trivial) ?_
  · intro k C h
    have := lk_mem h
    simp only [tmsame, List.mem_cons, Prod.mk.injEq, List.not_mem_nil, or_false] at this
    rcases this with ⟨rfl, rfl⟩ | ⟨rfl, rfl⟩
    · exact oksame0
    · exact oksame1
  · intro k C h
    have := lk_mem h
    simp only [tmsame, List.mem_cons, Prod.mk.injEq, List.not_mem_nil, or_false] at this
    rcases this with ⟨rfl, rfl⟩ | ⟨rfl, rfl⟩
    · exact sgsame0
    · exact sgsame1
  · intro k C h
    have := lk_mem h
    simp only [tmsame, List.mem_cons, Prod.mk.injEq, List.not_mem_nil, or_false] at this
    rcases this with ⟨rfl, rfl⟩ | ⟨rfl, rfl⟩
    · exact vcssame0
    · exact vcssame1
  · intro k C h
    have := lk_mem h
    simp only [tmsame, List.mem_cons, Prod.mk.injEq, List.not_mem_nil, or_false] at this
    rcases this with ⟨rfl, rfl⟩ | ⟨rfl, rfl⟩
    · exact lnsame0
    · exact lnsame1
noncomputable section
abbrev TTnew : Tab := T stat.Φ cNew.roms [cWorks, cRight, cSi, cFrame, cFold, cSites1, cSites2, cRightL]
def wnew_0 : VW := (VW.done [(BE.le (IE.lit 1) (IE.wrap .i64 (IE.mul (IE.var .i64 1) (IE.var .i64 3)))), (BE.le (IE.wrap .i64 (IE.mul (IE.var .i64 1) (IE.var .i64 3))) (IE.lit 256)), (BE.lit true), (BE.fn 2 (AL.int .i64 (IE.var .i64 1) (AL.int .i64 (IE.var .i64 2) (AL.int .i64 (IE.var .i64 3) AL.nil))))] (some [(G.i (IE.len (LE.fn 4 (AL.int .i64 (IE.wrap .i64 (IE.mul (IE.var .i64 1) (IE.var .i64 3))) AL.nil))) (IE.wrap .i64 (IE.mul (IE.var .i64 1) (IE.var .i64 3)))), (G.l (LE.fn 4 (AL.int .i64 (IE.wrap .i64 (IE.mul (IE.var .i64 1) (IE.var .i64 3))) AL.nil)) (LE.rep (AL.int .i64 (IE.lit 0) (AL.bool (BE.lit false) (AL.int .i64 (IE.lit 0) (AL.int .i64 (IE.lit 0) AL.nil)))) (IE.wrap .i64 (IE.mul (IE.var .i64 1) (IE.var .i64 3))))), (G.i (IE.len (LE.fn 4 (AL.int .i64 (IE.wrap .i64 (IE.mul (IE.var .i64 1) (IE.var .i64 3))) AL.nil))) (IE.wrap .i64 (IE.mul (IE.var .i64 1) (IE.var .i64 3))))]))
def vwnew : List VW := [wnew_0]
end
theorem vcnew_0 : VD TTnew (st0 cNew) wnew_0 := by
  intro ρ kn hp
  have hF : ρ.z.F = stat.Φ := kn.F
  simp only [h_nil, h_cons, d_le, d_eq, d_not, d_var, d_lit, d_cel, d_leq, d_fn, d_and, d_iff, IE.den, LE.den, AL.den, lenV, true_and, and_true, hF, pb1, pb2, pb3, pb4, pl2, pl4] at hp
  obtain ⟨p1, p2, p3⟩ := hp
  refine all_cons (show (((ρ.z.F.l 4 [.int .i64 (IntKind.wrap .i64 ((ρ.i .i64 1) * (ρ.i .i64 3)))]).length : Nat) : Int) = (IntKind.wrap .i64 ((ρ.i .i64 1) * (ρ.i .i64 3))) from ?_) (all_cons (show (ρ.z.F.l 4 [.int .i64 (IntKind.wrap .i64 ((ρ.i .i64 1) * (ρ.i .i64 3)))]) = (List.replicate (IntKind.wrap .i64 ((ρ.i .i64 1) * (ρ.i .i64 3))).toNat [Go.Value.int .i64 (0 : Int), Go.Value.bool false, Go.Value.int .i64 (0 : Int), Go.Value.int .i64 (0 : Int)]) from ?_) (all_cons (show (((ρ.z.F.l 4 [.int .i64 (IntKind.wrap .i64 ((ρ.i .i64 1) * (ρ.i .i64 3)))]).length : Nat) : Int) = (IntKind.wrap .i64 ((ρ.i .i64 1) * (ρ.i .i64 3))) from ?_) (all_nil)))
  all_goals try simp only [hF, pb1, pb2, pb3, pb4, pl2, pl4]
  all_goals first | rfl | omega | exact zero_len (by omega)
theorem told_new : Sx.Told stat.Φ cNew := told_vw (cs := [cWorks, cRight, cSi, cFrame, cFold, cSites1, cSites2, cRightL]) (all_cons told_works (all_cons told_right (all_cons told_si (all_cons told_frame (all_cons told_fold (all_cons told_sites1 (all_cons told_sites2 (all_cons told_rightL (all_nil))))))))) 4000 vwnew (by kernel_rfl) (by kernel_rfl) (by kernel_rfl) post_new (by kernel_rfl) (by kernel_rfl) (all_cons vcnew_0 (all_nil))
noncomputable section
abbrev TTlearnA : Tab := T stat.Φ cLearnA.roms [cWorks, cRight, cSi, cFrame, cFold, cSites1, cSites2, cRightL]
def pclearnA_0 : List BE := [(BE.le (IE.lit 1) (IE.wrap .i64 (IE.mul (IE.var .i64 1) (IE.var .i64 3)))), (BE.le (IE.wrap .i64 (IE.mul (IE.var .i64 1) (IE.var .i64 3))) (IE.lit 256)), (BE.lit true), (BE.fn 2 (AL.int .i64 (IE.var .i64 1) (AL.int .i64 (IE.var .i64 2) (AL.int .i64 (IE.var .i64 3) AL.nil)))), (BE.eq (IE.len (LE.rom 0)) (IE.wrap .i64 (IE.mul (IE.var .i64 1) (IE.var .i64 3)))), (BE.fn 1 (AL.lst (LE.rom 0) AL.nil)), (BE.fn 3 (AL.int .i64 (IE.var .i64 6) (AL.bool (BE.var 7) (AL.int .i64 (IE.var .i64 8) (AL.int .i64 (IE.var .i64 9) AL.nil))))), (BE.le (IE.lit 0) (IE.var .i64 5)), (BE.not (BE.le (IE.wrap .i64 (IE.mul (IE.var .i64 1) (IE.var .i64 3))) (IE.var .i64 5)))]
def pclearnA_1 : List BE := ((BE.le (IE.var .i64 6) (IE.cel .i64 (LE.rom 0) (IE.var .i64 5) 0)) :: pclearnA_0)
def pclearnA_2 : List BE := ((BE.eq (IE.var .i64 6) (IE.cel .i64 (LE.rom 0) (IE.var .i64 5) 0)) :: pclearnA_1)
def pclearnA_3 : List BE := ((BE.var 7) :: pclearnA_2)
def wlearnA_0 : VW := (VW.done ((BE.cel (LE.rom 0) (IE.var .i64 5) 1) :: pclearnA_3) (some [(G.i (IE.len (LE.fn 2 (AL.lst (LE.rom 0) (AL.int .i64 (IE.var .i64 5) (AL.int .i64 (IE.var .i64 6) (AL.bool (BE.var 7) (AL.int .i64 (IE.var .i64 8) (AL.int .i64 (IE.var .i64 9) AL.nil)))))))) (IE.len (LE.rom 0))), (G.b (BE.fn 4 (AL.lst (LE.rom 0) (AL.int .i64 (IE.var .i64 5) (AL.int .i64 (IE.var .i64 6) (AL.bool (BE.var 7) AL.nil))))) (BE.not (BE.cel (LE.rom 0) (IE.var .i64 5) 1))), (G.l (LE.fn 2 (AL.lst (LE.rom 0) (AL.int .i64 (IE.var .i64 5) (AL.int .i64 (IE.var .i64 6) (AL.bool (BE.var 7) (AL.int .i64 (IE.var .i64 8) (AL.int .i64 (IE.var .i64 9) AL.nil))))))) (LE.rom 0)), (G.i (IE.len (LE.fn 2 (AL.lst (LE.rom 0) (AL.int .i64 (IE.var .i64 5) (AL.int .i64 (IE.var .i64 6) (AL.bool (BE.var 7) (AL.int .i64 (IE.var .i64 8) (AL.int .i64 (IE.var .i64 9) AL.nil)))))))) (IE.len (LE.rom 0)))]))
def wlearnA_1 : VW := (VW.done ((BE.not (BE.cel (LE.rom 0) (IE.var .i64 5) 1)) :: pclearnA_3) (some [(G.i (IE.len (LE.fn 2 (AL.lst (LE.rom 0) (AL.int .i64 (IE.var .i64 5) (AL.int .i64 (IE.var .i64 6) (AL.bool (BE.var 7) (AL.int .i64 (IE.var .i64 8) (AL.int .i64 (IE.var .i64 9) AL.nil)))))))) (IE.len (LE.rom 0))), (G.b (BE.fn 4 (AL.lst (LE.rom 0) (AL.int .i64 (IE.var .i64 5) (AL.int .i64 (IE.var .i64 6) (AL.bool (BE.var 7) AL.nil))))) (BE.not (BE.cel (LE.rom 0) (IE.var .i64 5) 1))), (G.l (LE.fn 2 (AL.lst (LE.rom 0) (AL.int .i64 (IE.var .i64 5) (AL.int .i64 (IE.var .i64 6) (AL.bool (BE.var 7) (AL.int .i64 (IE.var .i64 8) (AL.int .i64 (IE.var .i64 9) AL.nil))))))) (LE.set (LE.rom 0) (IE.var .i64 5) (AL.int .i64 (IE.var .i64 6) (AL.bool (BE.var 7) (AL.int .i64 (IE.var .i64 8) (AL.int .i64 (IE.var .i64 9) AL.nil)))))), (G.i (IE.len (LE.fn 2 (AL.lst (LE.rom 0) (AL.int .i64 (IE.var .i64 5) (AL.int .i64 (IE.var .i64 6) (AL.bool (BE.var 7) (AL.int .i64 (IE.var .i64 8) (AL.int .i64 (IE.var .i64 9) AL.nil)))))))) (IE.len (LE.rom 0)))]))
def wlearnA_2 : VW := (VW.done ((BE.not (BE.var 7)) :: pclearnA_2) (some [(G.i (IE.len (LE.fn 2 (AL.lst (LE.rom 0) (AL.int .i64 (IE.var .i64 5) (AL.int .i64 (IE.var .i64 6) (AL.bool (BE.var 7) (AL.int .i64 (IE.var .i64 8) (AL.int .i64 (IE.var .i64 9) AL.nil)))))))) (IE.len (LE.rom 0))), (G.b (BE.fn 4 (AL.lst (LE.rom 0) (AL.int .i64 (IE.var .i64 5) (AL.int .i64 (IE.var .i64 6) (AL.bool (BE.var 7) AL.nil))))) (BE.lit false)), (G.l (LE.fn 2 (AL.lst (LE.rom 0) (AL.int .i64 (IE.var .i64 5) (AL.int .i64 (IE.var .i64 6) (AL.bool (BE.var 7) (AL.int .i64 (IE.var .i64 8) (AL.int .i64 (IE.var .i64 9) AL.nil))))))) (LE.rom 0)), (G.i (IE.len (LE.fn 2 (AL.lst (LE.rom 0) (AL.int .i64 (IE.var .i64 5) (AL.int .i64 (IE.var .i64 6) (AL.bool (BE.var 7) (AL.int .i64 (IE.var .i64 8) (AL.int .i64 (IE.var .i64 9) AL.nil)))))))) (IE.len (LE.rom 0)))]))
def wlearnA_3 : VW := (VW.done ((BE.not (BE.eq (IE.var .i64 6) (IE.cel .i64 (LE.rom 0) (IE.var .i64 5) 0))) :: pclearnA_1) (some [(G.i (IE.len (LE.fn 2 (AL.lst (LE.rom 0) (AL.int .i64 (IE.var .i64 5) (AL.int .i64 (IE.var .i64 6) (AL.bool (BE.var 7) (AL.int .i64 (IE.var .i64 8) (AL.int .i64 (IE.var .i64 9) AL.nil)))))))) (IE.len (LE.rom 0))), (G.b (BE.fn 4 (AL.lst (LE.rom 0) (AL.int .i64 (IE.var .i64 5) (AL.int .i64 (IE.var .i64 6) (AL.bool (BE.var 7) AL.nil))))) (BE.lit false)), (G.l (LE.fn 2 (AL.lst (LE.rom 0) (AL.int .i64 (IE.var .i64 5) (AL.int .i64 (IE.var .i64 6) (AL.bool (BE.var 7) (AL.int .i64 (IE.var .i64 8) (AL.int .i64 (IE.var .i64 9) AL.nil))))))) (LE.rom 0)), (G.i (IE.len (LE.fn 2 (AL.lst (LE.rom 0) (AL.int .i64 (IE.var .i64 5) (AL.int .i64 (IE.var .i64 6) (AL.bool (BE.var 7) (AL.int .i64 (IE.var .i64 8) (AL.int .i64 (IE.var .i64 9) AL.nil)))))))) (IE.len (LE.rom 0)))]))
def wlearnA_4 : VW := (VW.done ((BE.not (BE.le (IE.var .i64 6) (IE.cel .i64 (LE.rom 0) (IE.var .i64 5) 0))) :: pclearnA_0) (some [(G.i (IE.len (LE.fn 2 (AL.lst (LE.rom 0) (AL.int .i64 (IE.var .i64 5) (AL.int .i64 (IE.var .i64 6) (AL.bool (BE.var 7) (AL.int .i64 (IE.var .i64 8) (AL.int .i64 (IE.var .i64 9) AL.nil)))))))) (IE.len (LE.rom 0))), (G.b (BE.fn 4 (AL.lst (LE.rom 0) (AL.int .i64 (IE.var .i64 5) (AL.int .i64 (IE.var .i64 6) (AL.bool (BE.var 7) AL.nil))))) (BE.lit true)), (G.l (LE.fn 2 (AL.lst (LE.rom 0) (AL.int .i64 (IE.var .i64 5) (AL.int .i64 (IE.var .i64 6) (AL.bool (BE.var 7) (AL.int .i64 (IE.var .i64 8) (AL.int .i64 (IE.var .i64 9) AL.nil))))))) (LE.set (LE.rom 0) (IE.var .i64 5) (AL.int .i64 (IE.var .i64 6) (AL.bool (BE.var 7) (AL.int .i64 (IE.var .i64 8) (AL.int .i64 (IE.var .i64 9) AL.nil)))))), (G.i (IE.len (LE.fn 2 (AL.lst (LE.rom 0) (AL.int .i64 (IE.var .i64 5) (AL.int .i64 (IE.var .i64 6) (AL.bool (BE.var 7) (AL.int .i64 (IE.var .i64 8) (AL.int .i64 (IE.var .i64 9) AL.nil)))))))) (IE.len (LE.rom 0)))]))
def vwlearnA : List VW := [wlearnA_0, wlearnA_1, wlearnA_2, wlearnA_3, wlearnA_4]
end
theorem vclearnA_0 : VD TTlearnA (st0 cLearnA) wlearnA_0 := by
  intro ρ kn hp
  have hF : ρ.z.F = stat.Φ := kn.F
  simp only [h_nil, h_cons, d_le, d_eq, d_not, d_var, d_lit, d_cel, d_leq, d_fn, d_and, d_iff, IE.den, LE.den, AL.den, lenV, true_and, and_true, pclearnA_3, pclearnA_2, pclearnA_1, pclearnA_0, hF, pb1, pb2, pb3, pb4, pl2, pl4] at hp
  obtain ⟨p1, p2, p3, p4, p5, p6, p7, p8, p9, p10, p11, p12⟩ := hp
  refine all_cons (show (((ρ.z.F.l 2 [.lst (ρ.z.rl 0), .int .i64 (ρ.i .i64 5), .int .i64 (ρ.i .i64 6), .bool (ρ.b 7), .int .i64 (ρ.i .i64 8), .int .i64 (ρ.i .i64 9)]).length : Nat) : Int) = (((ρ.z.rl 0).length : Nat) : Int) from ?_) (all_cons (show (ρ.z.F.b 4 [.lst (ρ.z.rl 0), .int .i64 (ρ.i .i64 5), .int .i64 (ρ.i .i64 6), .bool (ρ.b 7)]) = (!(boolV (celV (ρ.z.rl 0) (ρ.i .i64 5) 1))) from ?_) (all_cons (show (ρ.z.F.l 2 [.lst (ρ.z.rl 0), .int .i64 (ρ.i .i64 5), .int .i64 (ρ.i .i64 6), .bool (ρ.b 7), .int .i64 (ρ.i .i64 8), .int .i64 (ρ.i .i64 9)]) = (ρ.z.rl 0) from ?_) (all_cons (show (((ρ.z.F.l 2 [.lst (ρ.z.rl 0), .int .i64 (ρ.i .i64 5), .int .i64 (ρ.i .i64 6), .bool (ρ.b 7), .int .i64 (ρ.i .i64 8), .int .i64 (ρ.i .i64 9)]).length : Nat) : Int) = (((ρ.z.rl 0).length : Nat) : Int) from ?_) (all_nil))))
  all_goals try simp only [hF, pb1, pb2, pb3, pb4, pl2, pl4]
  all_goals
    first
      | rw [learn_len]
      | (refine beq_of ?_
         rw [more_iff]
         unfold atI atB
         simp only [Bool.not_eq_true', Bool.false_eq_true, iff_false, iff_true]
         first
           | omega
           | (refine ⟨fun h => ?_, fun h => ?_⟩
              · rcases h with h | ⟨_, _, h⟩
                · omega
                · exact h
              · exact .inr ⟨by assumption, by assumption, h⟩)
           | (rintro (h | ⟨_, h, _⟩)
              · omega
              · first
                  | omega
                  | exact absurd h (by assumption)))
      | (unfold learnL
         rw [if_pos (by
           rw [more_iff]
           unfold atI atB
           first
             | exact .inl (by omega)
             | exact .inr ⟨by assumption, by assumption, Bool.eq_false_iff.2 (by assumption)⟩)])
      | (unfold learnL
         rw [if_neg (by
           rw [more_iff]
           unfold atI atB
           rintro (h | ⟨h1, h2, h3⟩)
           · omega
           · first
               | omega
               | exact absurd h2 (by assumption)
               | exact absurd h3 (by simp only [p1, Bool.true_eq_false, not_false_eq_true, reduceCtorEq]))])
theorem vclearnA_1 : VD TTlearnA (st0 cLearnA) wlearnA_1 := by
  intro ρ kn hp
  have hF : ρ.z.F = stat.Φ := kn.F
  simp only [h_nil, h_cons, d_le, d_eq, d_not, d_var, d_lit, d_cel, d_leq, d_fn, d_and, d_iff, IE.den, LE.den, AL.den, lenV, true_and, and_true, pclearnA_3, pclearnA_2, pclearnA_1, pclearnA_0, hF, pb1, pb2, pb3, pb4, pl2, pl4] at hp
  obtain ⟨p1, p2, p3, p4, p5, p6, p7, p8, p9, p10, p11, p12⟩ := hp
  refine all_cons (show (((ρ.z.F.l 2 [.lst (ρ.z.rl 0), .int .i64 (ρ.i .i64 5), .int .i64 (ρ.i .i64 6), .bool (ρ.b 7), .int .i64 (ρ.i .i64 8), .int .i64 (ρ.i .i64 9)]).length : Nat) : Int) = (((ρ.z.rl 0).length : Nat) : Int) from ?_) (all_cons (show (ρ.z.F.b 4 [.lst (ρ.z.rl 0), .int .i64 (ρ.i .i64 5), .int .i64 (ρ.i .i64 6), .bool (ρ.b 7)]) = (!(boolV (celV (ρ.z.rl 0) (ρ.i .i64 5) 1))) from ?_) (all_cons (show (ρ.z.F.l 2 [.lst (ρ.z.rl 0), .int .i64 (ρ.i .i64 5), .int .i64 (ρ.i .i64 6), .bool (ρ.b 7), .int .i64 (ρ.i .i64 8), .int .i64 (ρ.i .i64 9)]) = ((ρ.z.rl 0).set (ρ.i .i64 5).toNat [Go.Value.int .i64 (ρ.i .i64 6), Go.Value.bool (ρ.b 7), Go.Value.int .i64 (ρ.i .i64 8), Go.Value.int .i64 (ρ.i .i64 9)]) from ?_) (all_cons (show (((ρ.z.F.l 2 [.lst (ρ.z.rl 0), .int .i64 (ρ.i .i64 5), .int .i64 (ρ.i .i64 6), .bool (ρ.b 7), .int .i64 (ρ.i .i64 8), .int .i64 (ρ.i .i64 9)]).length : Nat) : Int) = (((ρ.z.rl 0).length : Nat) : Int) from ?_) (all_nil))))
  all_goals try simp only [hF, pb1, pb2, pb3, pb4, pl2, pl4]
  all_goals
    first
      | rw [learn_len]
      | (refine beq_of ?_
         rw [more_iff]
         unfold atI atB
         simp only [Bool.not_eq_true', Bool.false_eq_true, iff_false, iff_true]
         first
           | omega
           | (refine ⟨fun h => ?_, fun h => ?_⟩
              · rcases h with h | ⟨_, _, h⟩
                · omega
                · exact h
              · exact .inr ⟨by assumption, by assumption, h⟩)
           | (rintro (h | ⟨_, h, _⟩)
              · omega
              · first
                  | omega
                  | exact absurd h (by assumption)))
      | (unfold learnL
         rw [if_pos (by
           rw [more_iff]
           unfold atI atB
           first
             | exact .inl (by omega)
             | exact .inr ⟨by assumption, by assumption, Bool.eq_false_iff.2 (by assumption)⟩)])
      | (unfold learnL
         rw [if_neg (by
           rw [more_iff]
           unfold atI atB
           rintro (h | ⟨h1, h2, h3⟩)
           · omega
           · first
               | omega
               | exact absurd h2 (by assumption)
               | exact absurd h3 (by simp only [p1, Bool.true_eq_false, not_false_eq_true, reduceCtorEq]))])
theorem vclearnA_2 : VD TTlearnA (st0 cLearnA) wlearnA_2 := by
  intro ρ kn hp
  have hF : ρ.z.F = stat.Φ := kn.F
  simp only [h_nil, h_cons, d_le, d_eq, d_not, d_var, d_lit, d_cel, d_leq, d_fn, d_and, d_iff, IE.den, LE.den, AL.den, lenV, true_and, and_true, pclearnA_2, pclearnA_1, pclearnA_0, hF, pb1, pb2, pb3, pb4, pl2, pl4] at hp
  obtain ⟨p1, p2, p3, p4, p5, p6, p7, p8, p9, p10, p11⟩ := hp
  refine all_cons (show (((ρ.z.F.l 2 [.lst (ρ.z.rl 0), .int .i64 (ρ.i .i64 5), .int .i64 (ρ.i .i64 6), .bool (ρ.b 7), .int .i64 (ρ.i .i64 8), .int .i64 (ρ.i .i64 9)]).length : Nat) : Int) = (((ρ.z.rl 0).length : Nat) : Int) from ?_) (all_cons (show (ρ.z.F.b 4 [.lst (ρ.z.rl 0), .int .i64 (ρ.i .i64 5), .int .i64 (ρ.i .i64 6), .bool (ρ.b 7)]) = false from ?_) (all_cons (show (ρ.z.F.l 2 [.lst (ρ.z.rl 0), .int .i64 (ρ.i .i64 5), .int .i64 (ρ.i .i64 6), .bool (ρ.b 7), .int .i64 (ρ.i .i64 8), .int .i64 (ρ.i .i64 9)]) = (ρ.z.rl 0) from ?_) (all_cons (show (((ρ.z.F.l 2 [.lst (ρ.z.rl 0), .int .i64 (ρ.i .i64 5), .int .i64 (ρ.i .i64 6), .bool (ρ.b 7), .int .i64 (ρ.i .i64 8), .int .i64 (ρ.i .i64 9)]).length : Nat) : Int) = (((ρ.z.rl 0).length : Nat) : Int) from ?_) (all_nil))))
  all_goals try simp only [hF, pb1, pb2, pb3, pb4, pl2, pl4]
  all_goals
    first
      | rw [learn_len]
      | (refine beq_of ?_
         rw [more_iff]
         unfold atI atB
         simp only [Bool.not_eq_true', Bool.false_eq_true, iff_false, iff_true]
         first
           | omega
           | (refine ⟨fun h => ?_, fun h => ?_⟩
              · rcases h with h | ⟨_, _, h⟩
                · omega
                · exact h
              · exact .inr ⟨by assumption, by assumption, h⟩)
           | (rintro (h | ⟨_, h, _⟩)
              · omega
              · first
                  | omega
                  | exact absurd h (by assumption)))
      | (unfold learnL
         rw [if_pos (by
           rw [more_iff]
           unfold atI atB
           first
             | exact .inl (by omega)
             | exact .inr ⟨by assumption, by assumption, Bool.eq_false_iff.2 (by assumption)⟩)])
      | (unfold learnL
         rw [if_neg (by
           rw [more_iff]
           unfold atI atB
           rintro (h | ⟨h1, h2, h3⟩)
           · omega
           · first
               | omega
               | exact absurd h2 (by assumption)
               | exact absurd h3 (by simp only [p1, Bool.true_eq_false, not_false_eq_true, reduceCtorEq]))])
theorem vclearnA_3 : VD TTlearnA (st0 cLearnA) wlearnA_3 := by
  intro ρ kn hp
  have hF : ρ.z.F = stat.Φ := kn.F
  simp only [h_nil, h_cons, d_le, d_eq, d_not, d_var, d_lit, d_cel, d_leq, d_fn, d_and, d_iff, IE.den, LE.den, AL.den, lenV, true_and, and_true, pclearnA_1, pclearnA_0, hF, pb1, pb2, pb3, pb4, pl2, pl4] at hp
  obtain ⟨p1, p2, p3, p4, p5, p6, p7, p8, p9, p10⟩ := hp
  refine all_cons (show (((ρ.z.F.l 2 [.lst (ρ.z.rl 0), .int .i64 (ρ.i .i64 5), .int .i64 (ρ.i .i64 6), .bool (ρ.b 7), .int .i64 (ρ.i .i64 8), .int .i64 (ρ.i .i64 9)]).length : Nat) : Int) = (((ρ.z.rl 0).length : Nat) : Int) from ?_) (all_cons (show (ρ.z.F.b 4 [.lst (ρ.z.rl 0), .int .i64 (ρ.i .i64 5), .int .i64 (ρ.i .i64 6), .bool (ρ.b 7)]) = false from ?_) (all_cons (show (ρ.z.F.l 2 [.lst (ρ.z.rl 0), .int .i64 (ρ.i .i64 5), .int .i64 (ρ.i .i64 6), .bool (ρ.b 7), .int .i64 (ρ.i .i64 8), .int .i64 (ρ.i .i64 9)]) = (ρ.z.rl 0) from ?_) (all_cons (show (((ρ.z.F.l 2 [.lst (ρ.z.rl 0), .int .i64 (ρ.i .i64 5), .int .i64 (ρ.i .i64 6), .bool (ρ.b 7), .int .i64 (ρ.i .i64 8), .int .i64 (ρ.i .i64 9)]).length : Nat) : Int) = (((ρ.z.rl 0).length : Nat) : Int) from ?_) (all_nil))))
  all_goals try simp only [hF, pb1, pb2, pb3, pb4, pl2, pl4]
  all_goals
    first
      | rw [learn_len]
      | (refine beq_of ?_
         rw [more_iff]
         unfold atI atB
         simp only [Bool.not_eq_true', Bool.false_eq_true, iff_false, iff_true]
         first
           | omega
           | (refine ⟨fun h => ?_, fun h => ?_⟩
              · rcases h with h | ⟨_, _, h⟩
                · omega
                · exact h
              · exact .inr ⟨by assumption, by assumption, h⟩)
           | (rintro (h | ⟨_, h, _⟩)
              · omega
              · first
                  | omega
                  | exact absurd h (by assumption)))
      | (unfold learnL
         rw [if_pos (by
           rw [more_iff]
           unfold atI atB
           first
             | exact .inl (by omega)
             | exact .inr ⟨by assumption, by assumption, Bool.eq_false_iff.2 (by assumption)⟩)])
      | (unfold learnL
         rw [if_neg (by
           rw [more_iff]
           unfold atI atB
           rintro (h | ⟨h1, h2, h3⟩)
           · omega
           · first
               | omega
               | exact absurd h2 (by assumption)
               | exact absurd h3 (by simp only [p1, Bool.true_eq_false, not_false_eq_true, reduceCtorEq]))])
theorem vclearnA_4 : VD TTlearnA (st0 cLearnA) wlearnA_4 := by
  intro ρ kn hp
  have hF : ρ.z.F = stat.Φ := kn.F
  simp only [h_nil, h_cons, d_le, d_eq, d_not, d_var, d_lit, d_cel, d_leq, d_fn, d_and, d_iff, IE.den, LE.den, AL.den, lenV, true_and, and_true, pclearnA_0, hF, pb1, pb2, pb3, pb4, pl2, pl4] at hp
  obtain ⟨p1, p2, p3, p4, p5, p6, p7, p8, p9⟩ := hp
  refine all_cons (show (((ρ.z.F.l 2 [.lst (ρ.z.rl 0), .int .i64 (ρ.i .i64 5), .int .i64 (ρ.i .i64 6), .bool (ρ.b 7), .int .i64 (ρ.i .i64 8), .int .i64 (ρ.i .i64 9)]).length : Nat) : Int) = (((ρ.z.rl 0).length : Nat) : Int) from ?_) (all_cons (show (ρ.z.F.b 4 [.lst (ρ.z.rl 0), .int .i64 (ρ.i .i64 5), .int .i64 (ρ.i .i64 6), .bool (ρ.b 7)]) = true from ?_) (all_cons (show (ρ.z.F.l 2 [.lst (ρ.z.rl 0), .int .i64 (ρ.i .i64 5), .int .i64 (ρ.i .i64 6), .bool (ρ.b 7), .int .i64 (ρ.i .i64 8), .int .i64 (ρ.i .i64 9)]) = ((ρ.z.rl 0).set (ρ.i .i64 5).toNat [Go.Value.int .i64 (ρ.i .i64 6), Go.Value.bool (ρ.b 7), Go.Value.int .i64 (ρ.i .i64 8), Go.Value.int .i64 (ρ.i .i64 9)]) from ?_) (all_cons (show (((ρ.z.F.l 2 [.lst (ρ.z.rl 0), .int .i64 (ρ.i .i64 5), .int .i64 (ρ.i .i64 6), .bool (ρ.b 7), .int .i64 (ρ.i .i64 8), .int .i64 (ρ.i .i64 9)]).length : Nat) : Int) = (((ρ.z.rl 0).length : Nat) : Int) from ?_) (all_nil))))
  all_goals try simp only [hF, pb1, pb2, pb3, pb4, pl2, pl4]
  all_goals
    first
      | rw [learn_len]
      | (refine beq_of ?_
         rw [more_iff]
         unfold atI atB
         simp only [Bool.not_eq_true', Bool.false_eq_true, iff_false, iff_true]
         first
           | omega
           | (refine ⟨fun h => ?_, fun h => ?_⟩
              · rcases h with h | ⟨_, _, h⟩
                · omega
                · exact h
              · exact .inr ⟨by assumption, by assumption, h⟩)
           | (rintro (h | ⟨_, h, _⟩)
              · omega
              · first
                  | omega
                  | exact absurd h (by assumption)))
      | (unfold learnL
         rw [if_pos (by
           rw [more_iff]
           unfold atI atB
           first
             | exact .inl (by omega)
             | exact .inr ⟨by assumption, by assumption, Bool.eq_false_iff.2 (by assumption)⟩)])
      | (unfold learnL
         rw [if_neg (by
           rw [more_iff]
           unfold atI atB
           rintro (h | ⟨h1, h2, h3⟩)
           · omega
           · first
               | omega
               | exact absurd h2 (by assumption)
               | exact absurd h3 (by simp only [p1, Bool.true_eq_false, not_false_eq_true, reduceCtorEq]))])
theorem told_learnA : Sx.Told stat.Φ cLearnA := told_vw (cs := [cWorks, cRight, cSi, cFrame, cFold, cSites1, cSites2, cRightL]) (all_cons told_works (all_cons told_right (all_cons told_si (all_cons told_frame (all_cons told_fold (all_cons told_sites1 (all_cons told_sites2 (all_cons told_rightL (all_nil))))))))) 4000 vwlearnA (by kernel_rfl) (by kernel_rfl) (by kernel_rfl) post_learnA (by kernel_rfl) (by kernel_rfl) (all_cons vclearnA_0 (all_cons vclearnA_1 (all_cons vclearnA_2 (all_cons vclearnA_3 (all_cons vclearnA_4 (all_nil))))))
theorem told_learnB : Sx.Told stat.Φ cLearnB := told_auto (cs := [cWorks, cRight, cSi, cFrame, cFold, cSites1, cSites2, cRightL]) (all_cons told_works (all_cons told_right (all_cons told_si (all_cons told_frame (all_cons told_fold (all_cons told_sites1 (all_cons told_sites2 (all_cons told_rightL (all_nil))))))))) 4000 (by kernel_rfl) (by kernel_rfl) (by kernel_rfl) (post_nil rfl) (by kernel_rfl) (by kernel_rfl)
theorem told_learnC : Sx.Told stat.Φ cLearnC := told_auto (cs := [cWorks, cRight, cSi, cFrame, cFold, cSites1, cSites2, cRightL]) (all_cons told_works (all_cons told_right (all_cons told_si (all_cons told_frame (all_cons told_fold (all_cons told_sites1 (all_cons told_sites2 (all_cons told_rightL (all_nil))))))))) 4000 (by kernel_rfl) (by kernel_rfl) (by kernel_rfl) (post_nil rfl) (by kernel_rfl) (by kernel_rfl)
theorem told_learnD : Sx.Told stat.Φ cLearnD := told_auto (cs := [cWorks, cRight, cSi, cFrame, cFold, cSites1, cSites2, cRightL]) (all_cons told_works (all_cons told_right (all_cons told_si (all_cons told_frame (all_cons told_fold (all_cons told_sites1 (all_cons told_sites2 (all_cons told_rightL (all_nil))))))))) 4000 (by kernel_rfl) (by kernel_rfl) (by kernel_rfl) (post_nil rfl) (by kernel_rfl) (by kernel_rfl)
end Go.Proofs.Ytjgkaimgocnkmab.stat
