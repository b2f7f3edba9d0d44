/- Layer escrow: runs, told. No condition. -/
import Derived.Test.YtdfgidogiacmnaaEb
set_option linter.unusedVariables false
set_option linter.unusedSimpArgs false
set_option linter.deprecated false
namespace Go.Proofs.Ytdfgidogiacmnaa.esc
open Go Go.Proofs.Ytdfgidogiacmnaa.Sx
noncomputable section
abbrev TTrunS : Tab := T esc.Φ cRunS.roms [cChg, cChgN]
def trunS1 : Cfg := { top := ⟨6, over (opqS 10000 35) [(1, (SV.rom 0 (IE.lit 0) (IE.len (LE.rom 0)) none)), (2, (SV.ptr 0 0)), (6, (SV.sll 3 4 3 (IE.lit 0) (IE.var .i64 1000) none)), (7, (SV.int .i64 (IE.var .i64 1000)))], ogt (loopTodo (bodyOf (T esc.Φ [] []) 6) 0), [], false, none⟩, rest := [], heap := [(0, .cells [(SV.int .i64 (IE.var .i64 1001)), (SV.int .i64 (IE.var .i64 2)), (SV.int .u64 (IE.var .u64 1002))] 24), (3, .rowl (LE.var 1004) (IE.var .i64 1000) [(CK.int .i64), (CK.int .i64), (CK.int .u64)] 24 4 3)], next := 5, pc := .lit true :: ([] ++ [(BE.eq (IE.fn .i64 1 (AL.int .i64 (IE.var .i64 1) (AL.int .i64 (IE.var .i64 2) (AL.int .u64 (IE.var .u64 3) (AL.int .i64 (IE.cel .i64 (LE.rom 0) (IE.lit 0) 0) AL.nil))))) (IE.lit 0)), (BE.le (IE.lit 1) (IE.len (LE.rom 0))), (BE.le (IE.len (LE.rom 0)) (IE.lit 50)), (BE.le (IE.var .u64 3) (IE.lit 4611686018427387903)), (BE.le (IE.add (IE.var .i64 1) (IE.cel .i64 (LE.rom 0) (IE.lit 0) 0)) (IE.lit 9223372036854775807)), (BE.le (IE.var .i64 2) (IE.add (IE.var .i64 1) (IE.cel .i64 (LE.rom 0) (IE.lit 0) 0))), (BE.le (IE.lit (-9223372036854775808)) (IE.add (IE.var .i64 1) (IE.cel .i64 (LE.rom 0) (IE.lit 0) 0))), (BE.le (IE.lit 0) (IE.var .i64 1000)), (BE.le (IE.var .i64 1000) (IE.len (LE.rom 0)))]) }
def tmrunS : List (Nat × Cfg) := [(0, startF 6 cRunS.pat (.lit true :: cRunS.pre)), (1, trunS1)]
def selrunS : Sel := [(6, 1, 770000, 1)]
def wrunS0_0 : VW := (VW.cut 1 [(BE.le (IE.lit (-9223372036854775808)) (IE.add (IE.var .i64 1) (IE.cel .i64 (LE.rom 0) (IE.lit 0) 0))), (BE.le (IE.var .i64 2) (IE.add (IE.var .i64 1) (IE.cel .i64 (LE.rom 0) (IE.lit 0) 0))), (BE.le (IE.add (IE.var .i64 1) (IE.cel .i64 (LE.rom 0) (IE.lit 0) 0)) (IE.lit 9223372036854775807)), (BE.le (IE.var .u64 3) (IE.lit 4611686018427387903)), (BE.lit true), (BE.le (IE.len (LE.rom 0)) (IE.lit 50)), (BE.le (IE.lit 1) (IE.len (LE.rom 0))), (BE.eq (IE.fn .i64 1 (AL.int .i64 (IE.var .i64 1) (AL.int .i64 (IE.var .i64 2) (AL.int .u64 (IE.var .u64 3) (AL.int .i64 (IE.cel .i64 (LE.rom 0) (IE.lit 0) 0) AL.nil))))) (IE.lit 0))] (Sx.Sub.mk [(.u64, (1002, (IE.add (IE.var .u64 3) (IE.lit 1)))), (.i64, (1001, (IE.add (IE.var .i64 1) (IE.cel .i64 (LE.rom 0) (IE.lit 0) 0)))), (.i64, (1000, (IE.lit 1)))] [] [(1004, (LE.one (AL.int .i64 (IE.add (IE.var .i64 1) (IE.cel .i64 (LE.rom 0) (IE.lit 0) 0)) (AL.int .i64 (IE.var .i64 2) (AL.int .u64 (IE.add (IE.var .u64 3) (IE.lit 1)) AL.nil)))))] [] [] []))
def vwrunS0 : List VW := [wrunS0_0]
def pcrunS1_0 : List BE := [(BE.lit true), (BE.eq (IE.fn .i64 1 (AL.int .i64 (IE.var .i64 1) (AL.int .i64 (IE.var .i64 2) (AL.int .u64 (IE.var .u64 3) (AL.int .i64 (IE.cel .i64 (LE.rom 0) (IE.lit 0) 0) AL.nil))))) (IE.lit 0)), (BE.le (IE.lit 1) (IE.len (LE.rom 0))), (BE.le (IE.len (LE.rom 0)) (IE.lit 50)), (BE.le (IE.var .u64 3) (IE.lit 4611686018427387903)), (BE.le (IE.add (IE.var .i64 1) (IE.cel .i64 (LE.rom 0) (IE.lit 0) 0)) (IE.lit 9223372036854775807)), (BE.le (IE.var .i64 2) (IE.add (IE.var .i64 1) (IE.cel .i64 (LE.rom 0) (IE.lit 0) 0))), (BE.le (IE.lit (-9223372036854775808)) (IE.add (IE.var .i64 1) (IE.cel .i64 (LE.rom 0) (IE.lit 0) 0))), (BE.le (IE.lit 0) (IE.var .i64 1000)), (BE.le (IE.var .i64 1000) (IE.len (LE.rom 0)))]
def pcrunS1_1 : List BE := ((BE.not (BE.le (IE.len (LE.rom 0)) (IE.var .i64 1000))) :: pcrunS1_0)
def wrunS1_0 : VW := (VW.done ((BE.le (IE.len (LE.rom 0)) (IE.var .i64 1000)) :: pcrunS1_0) (some [(G.i (IE.len (LE.fn 2 (AL.lst (LE.rom 0) (AL.int .i64 (IE.var .i64 1) (AL.int .i64 (IE.var .i64 2) (AL.int .u64 (IE.var .u64 3) AL.nil)))))) (IE.var .i64 1000)), (G.i (IE.fn .i64 3 (AL.lst (LE.rom 0) (AL.int .i64 (IE.var .i64 1) (AL.int .i64 (IE.var .i64 2) (AL.int .u64 (IE.var .u64 3) AL.nil))))) (IE.lit 0)), (G.l (LE.fn 2 (AL.lst (LE.rom 0) (AL.int .i64 (IE.var .i64 1) (AL.int .i64 (IE.var .i64 2) (AL.int .u64 (IE.var .u64 3) AL.nil))))) (LE.var 1004)), (G.i (IE.len (LE.fn 2 (AL.lst (LE.rom 0) (AL.int .i64 (IE.var .i64 1) (AL.int .i64 (IE.var .i64 2) (AL.int .u64 (IE.var .u64 3) AL.nil)))))) (IE.var .i64 1000))]))
def wrunS1_1 : VW := (VW.cut 1 ((BE.le (IE.lit (-9223372036854775808)) (IE.add (IE.var .i64 1001) (IE.cel .i64 (LE.rom 0) (IE.var .i64 1000) 0))) :: (BE.le (IE.var .i64 2) (IE.add (IE.var .i64 1001) (IE.cel .i64 (LE.rom 0) (IE.var .i64 1000) 0))) :: (BE.le (IE.add (IE.var .i64 1001) (IE.cel .i64 (LE.rom 0) (IE.var .i64 1000) 0)) (IE.lit 9223372036854775807)) :: (BE.le (IE.var .u64 1002) (IE.lit 4611686018427387903)) :: (BE.eq (IE.fn .i64 1 (AL.int .i64 (IE.var .i64 1001) (AL.int .i64 (IE.var .i64 2) (AL.int .u64 (IE.var .u64 1002) (AL.int .i64 (IE.cel .i64 (LE.rom 0) (IE.var .i64 1000) 0) AL.nil))))) (IE.lit 0)) :: pcrunS1_1) (Sx.Sub.mk [(.u64, (1002, (IE.add (IE.var .u64 1002) (IE.lit 1)))), (.i64, (1001, (IE.add (IE.var .i64 1001) (IE.cel .i64 (LE.rom 0) (IE.var .i64 1000) 0)))), (.i64, (1000, (IE.add (IE.var .i64 1000) (IE.lit 1))))] [] [(1004, (LE.cat (LE.var 1004) (LE.one (AL.int .i64 (IE.add (IE.var .i64 1001) (IE.cel .i64 (LE.rom 0) (IE.var .i64 1000) 0)) (AL.int .i64 (IE.var .i64 2) (AL.int .u64 (IE.add (IE.var .u64 1002) (IE.lit 1)) AL.nil))))))] [] [] []))
def wrunS1_2 : VW := (VW.done ((BE.not (BE.eq (IE.fn .i64 1 (AL.int .i64 (IE.var .i64 1001) (AL.int .i64 (IE.var .i64 2) (AL.int .u64 (IE.var .u64 1002) (AL.int .i64 (IE.cel .i64 (LE.rom 0) (IE.var .i64 1000) 0) AL.nil))))) (IE.lit 0))) :: pcrunS1_1) (some [(G.i (IE.len (LE.fn 2 (AL.lst (LE.rom 0) (AL.int .i64 (IE.var .i64 1) (AL.int .i64 (IE.var .i64 2) (AL.int .u64 (IE.var .u64 3) AL.nil)))))) (IE.var .i64 1000)), (G.i (IE.fn .i64 3 (AL.lst (LE.rom 0) (AL.int .i64 (IE.var .i64 1) (AL.int .i64 (IE.var .i64 2) (AL.int .u64 (IE.var .u64 3) AL.nil))))) (IE.fn .i64 1 (AL.int .i64 (IE.var .i64 1001) (AL.int .i64 (IE.var .i64 2) (AL.int .u64 (IE.var .u64 1002) (AL.int .i64 (IE.cel .i64 (LE.rom 0) (IE.var .i64 1000) 0) AL.nil)))))), (G.l (LE.fn 2 (AL.lst (LE.rom 0) (AL.int .i64 (IE.var .i64 1) (AL.int .i64 (IE.var .i64 2) (AL.int .u64 (IE.var .u64 3) AL.nil))))) (LE.var 1004)), (G.i (IE.len (LE.fn 2 (AL.lst (LE.rom 0) (AL.int .i64 (IE.var .i64 1) (AL.int .i64 (IE.var .i64 2) (AL.int .u64 (IE.var .u64 3) AL.nil)))))) (IE.var .i64 1000))]))
def vwrunS1 : List VW := [wrunS1_0, wrunS1_1, wrunS1_2]
def vwrunS : Nat → List VW
  | 0 => vwrunS0
  | 1 => vwrunS1
  | _ => []
end
def invrunS : Nat → Lt → Prop
  | 1, l => Mid (l.z.rl 0) (l.i .i64 1) (l.i .i64 2) (l.i .u64 3) (l.i .i64 1001) (l.i .u64 1002) (l.l 1004) (l.i .i64 1000).toNat
  | _, _ => True
def msrunS : Nat → Lt → Nat
  | 0, l => (l.z.rl 0).length + 1
  | 1, l => (l.z.rl 0).length - (l.i .i64 1000).toNat
  | _, _ => 0
theorem vcrunS0_0 : VC TTrunS invrunS msrunS 0 (startF 6 cRunS.pat (.lit true :: cRunS.pre)) wrunS0_0 := by
  intro ρ kn hi hp
  have hF : ρ.z.F = esc.Φ := kn.F
  simp only [h_nil, h_cons, d_le, d_eq, d_not, d_var, d_lit, d_cel, d_leq, d_fn, d_and, d_iff, IE.den, LE.den, AL.den, lenV, true_and, and_true, hF, pi1, pi2, pi3, pl2] at hp
  obtain ⟨p1, p2, p3, p4, p5, p6, p7⟩ := hp
  refine (show (Mid (ρ.z.rl 0) (ρ.i .i64 1) (ρ.i .i64 2) (ρ.i .u64 3) ((ρ.i .i64 1) + (clampK .i64 (intV (celV (ρ.z.rl 0) (0 : Int) 0)))) ((ρ.i .u64 3) + (1 : Int)) ([[Go.Value.int .i64 ((ρ.i .i64 1) + (clampK .i64 (intV (celV (ρ.z.rl 0) (0 : Int) 0)))), Go.Value.int .i64 (ρ.i .i64 2), Go.Value.int .u64 ((ρ.i .u64 3) + (1 : Int))]] : LV) (1 : Int).toNat) ∧ (((ρ.z.rl 0).length - (1 : Int).toNat : Nat) < (ρ.z.rl 0).length + 1) from ?_)
  simp only [err_in] at *
  exact ⟨by have k := mid_s (i := 0) (Int.le_refl _) (mid_0 (ρ.z.rl 0) (ρ.i .i64 1) (ρ.i .i64 2) (ρ.i .u64 3)) (by assumption); exact k, by omega⟩
def ivrunS1 (ρ : Rho) : Prop := Mid (ρ.z.rl 0) (ρ.i .i64 1) (ρ.i .i64 2) (ρ.i .u64 3) (ρ.i .i64 1001) (ρ.i .u64 1002) (ρ.l 1004) (ρ.i .i64 1000).toNat
theorem vcrunS1_0 : VC TTrunS invrunS msrunS 1 trunS1 wrunS1_0 := by
  intro ρ kn hi hp
  have hi : ivrunS1 ρ := hi
  unfold ivrunS1 at hi
  have hF : ρ.z.F = esc.Φ := kn.F
  simp only [h_nil, h_cons, d_le, d_eq, d_not, d_var, d_lit, d_cel, d_leq, d_fn, d_and, d_iff, IE.den, LE.den, AL.den, lenV, true_and, and_true, pcrunS1_0, hF, pi1, pi2, pi3, pl2] at hp
  obtain ⟨p1, p2, p3, p4, p5, p6, p7, p8, p9, p10⟩ := hp
  refine all_cons (show (((ρ.z.F.l 2 [.lst (ρ.z.rl 0), .int .i64 (ρ.i .i64 1), .int .i64 (ρ.i .i64 2), .int .u64 (ρ.i .u64 3)]).length : Nat) : Int) = (ρ.i .i64 1000) from ?_) (all_cons (show (clampK .i64 (ρ.z.F.i 3 [.lst (ρ.z.rl 0), .int .i64 (ρ.i .i64 1), .int .i64 (ρ.i .i64 2), .int .u64 (ρ.i .u64 3)])) = (0 : Int) from ?_) (all_cons (show (ρ.z.F.l 2 [.lst (ρ.z.rl 0), .int .i64 (ρ.i .i64 1), .int .i64 (ρ.i .i64 2), .int .u64 (ρ.i .u64 3)]) = (ρ.l 1004) from ?_) (all_cons (show (((ρ.z.F.l 2 [.lst (ρ.z.rl 0), .int .i64 (ρ.i .i64 1), .int .i64 (ρ.i .i64 2), .int .u64 (ρ.i .u64 3)]).length : Nat) : Int) = (ρ.i .i64 1000) from ?_) (all_nil))))
  all_goals try simp only [hF, pi1, pi2, pi3, pl2]
  all_goals
    have e := mid_end (by omega) (by omega) hi
    have eo := hi.out
    rw [show (ρ.i .i64 1000).toNat = (ρ.z.rl 0).length by omega] at eo
    simp only [e, ← eo]
    first | rfl | (rw [if_neg (by omega)]; rfl) | (rw [hi.out, out_len]; omega) | skip
theorem vcrunS1_1 : VC TTrunS invrunS msrunS 1 trunS1 wrunS1_1 := by
  intro ρ kn hi hp
  have hi : ivrunS1 ρ := hi
  unfold ivrunS1 at hi
  have hF : ρ.z.F = esc.Φ := kn.F
  simp only [h_nil, h_cons, d_le, d_eq, d_not, d_var, d_lit, d_cel, d_leq, d_fn, d_and, d_iff, IE.den, LE.den, AL.den, lenV, true_and, and_true, pcrunS1_1, pcrunS1_0, hF, pi1, pi2, pi3, pl2] at hp
  obtain ⟨p1, p2, p3, p4, p5, p6, p7, p8, p9, p10, p11, p12, p13, p14, p15⟩ := hp
  refine (show (Mid (ρ.z.rl 0) (ρ.i .i64 1) (ρ.i .i64 2) (ρ.i .u64 3) ((ρ.i .i64 1001) + (clampK .i64 (intV (celV (ρ.z.rl 0) (ρ.i .i64 1000) 0)))) ((ρ.i .u64 1002) + (1 : Int)) ((ρ.l 1004) ++ ([[Go.Value.int .i64 ((ρ.i .i64 1001) + (clampK .i64 (intV (celV (ρ.z.rl 0) (ρ.i .i64 1000) 0)))), Go.Value.int .i64 (ρ.i .i64 2), Go.Value.int .u64 ((ρ.i .u64 1002) + (1 : Int))]] : LV)) ((ρ.i .i64 1000) + (1 : Int)).toNat) ∧ (((ρ.z.rl 0).length - ((ρ.i .i64 1000) + (1 : Int)).toNat : Nat) < (ρ.z.rl 0).length - (ρ.i .i64 1000).toNat) from ?_)
  simp only [err_in] at *
  exact ⟨by have k := mid_s (by omega) hi (by assumption); exact k, by omega⟩
theorem vcrunS1_2 : VC TTrunS invrunS msrunS 1 trunS1 wrunS1_2 := by
  intro ρ kn hi hp
  have hi : ivrunS1 ρ := hi
  unfold ivrunS1 at hi
  have hF : ρ.z.F = esc.Φ := kn.F
  simp only [h_nil, h_cons, d_le, d_eq, d_not, d_var, d_lit, d_cel, d_leq, d_fn, d_and, d_iff, IE.den, LE.den, AL.den, lenV, true_and, and_true, pcrunS1_1, pcrunS1_0, hF, pi1, pi2, pi3, pl2] at hp
  obtain ⟨p1, p2, p3, p4, p5, p6, p7, p8, p9, p10, p11⟩ := hp
  refine all_cons (show (((ρ.z.F.l 2 [.lst (ρ.z.rl 0), .int .i64 (ρ.i .i64 1), .int .i64 (ρ.i .i64 2), .int .u64 (ρ.i .u64 3)]).length : Nat) : Int) = (ρ.i .i64 1000) from ?_) (all_cons (show (clampK .i64 (ρ.z.F.i 3 [.lst (ρ.z.rl 0), .int .i64 (ρ.i .i64 1), .int .i64 (ρ.i .i64 2), .int .u64 (ρ.i .u64 3)])) = (clampK .i64 (ρ.z.F.i 1 [.int .i64 (ρ.i .i64 1001), .int .i64 (ρ.i .i64 2), .int .u64 (ρ.i .u64 1002), .int .i64 (clampK .i64 (intV (celV (ρ.z.rl 0) (ρ.i .i64 1000) 0)))])) from ?_) (all_cons (show (ρ.z.F.l 2 [.lst (ρ.z.rl 0), .int .i64 (ρ.i .i64 1), .int .i64 (ρ.i .i64 2), .int .u64 (ρ.i .u64 3)]) = (ρ.l 1004) from ?_) (all_cons (show (((ρ.z.F.l 2 [.lst (ρ.z.rl 0), .int .i64 (ρ.i .i64 1), .int .i64 (ρ.i .i64 2), .int .u64 (ρ.i .u64 3)]).length : Nat) : Int) = (ρ.i .i64 1000) from ?_) (all_nil))))
  all_goals try simp only [hF, pi1, pi2, pi3, pl2]
  all_goals
    have e := mid_stop (by omega) (by omega) hi (by rw [← err_in]; assumption)
    have eo := hi.out
    simp only [e, ← eo]
    first | rfl | (rw [hi.out, out_len]; omega) | (rw [if_pos (by omega), err_at (by omega) hi]) | skip
theorem vcsrunS0 : ∀ v ∈ vwrunS 0, VC TTrunS invrunS msrunS 0 (startF 6 cRunS.pat (.lit true :: cRunS.pre)) v := all_cons vcrunS0_0 (all_nil)
theorem okrunS0 : cfgOk (startF 6 cRunS.pat (.lit true :: cRunS.pre)) = true := by kernel_rfl
theorem sgrunS0 : segL cRunS.roms cRunS (seg TTrunS selrunS 900 tmrunS (startF 6 cRunS.pat (.lit true :: cRunS.pre))) = (true, codesR tmrunS (views (seg TTrunS selrunS 900 tmrunS (startF 6 cRunS.pat (.lit true :: cRunS.pre)))), vwrunS 0) := by kernel_rfl
theorem vcsrunS1 : ∀ v ∈ vwrunS 1, VC TTrunS invrunS msrunS 1 trunS1 v := all_cons vcrunS1_0 (all_cons vcrunS1_1 (all_cons vcrunS1_2 (all_nil)))
theorem okrunS1 : cfgOk trunS1 = true := by kernel_rfl
theorem sgrunS1 : segL cRunS.roms cRunS (seg TTrunS selrunS 900 tmrunS trunS1) = (true, codesR tmrunS (views (seg TTrunS selrunS 900 tmrunS trunS1)), vwrunS 1) := by kernel_rfl
theorem lnrunS0 : ∀ ρ, Known TTrunS (startF 6 cRunS.pat (.lit true :: cRunS.pre)) ρ → invrunS 0 ρ.lt → Holds ρ (leanOf (Cfg.pc (startF 6 cRunS.pat (.lit true :: cRunS.pre)))) := by
  intro ρ _ _
  exact (show Holds ρ [] from fun p hp => by cases hp)
theorem lnrunS1 : ∀ ρ, Known TTrunS trunS1 ρ → invrunS 1 ρ.lt → Holds ρ (leanOf (Cfg.pc trunS1)) := by
  intro ρ _ _
  exact (show Holds ρ [] from fun p hp => by cases hp)
theorem told_runS : Sx.Told esc.Φ cRunS := by
  refine told_of (cs := [cChg, cChgN]) (all_cons told_chg (all_cons told_chgN (all_nil))) (sel := selrunS) 900 tmrunS invrunS msrunS vwrunS 0 (pc0 := (.lit true :: cRunS.pre)) (by kernel_rfl) (by kernel_rfl) (by kernel_rfl) post_runS ?_ ?_ ?_ rfl (fun ρ _ h => h.cons (p := .lit true) (by simp only [BE.den])) (fun _ _ _ _ => trivial) ?_
  · intro k C h
    have := lk_mem h
    simp only [tmrunS, List.mem_cons, Prod.mk.injEq, List.not_mem_nil, or_false] at this
    rcases this with ⟨rfl, rfl⟩ | ⟨rfl, rfl⟩
    · exact okrunS0
    · exact okrunS1
  · intro k C h
    have := lk_mem h
    simp only [tmrunS, List.mem_cons, Prod.mk.injEq, List.not_mem_nil, or_false] at this
    rcases this with ⟨rfl, rfl⟩ | ⟨rfl, rfl⟩
    · exact sgrunS0
    · exact sgrunS1
  · intro k C h
    have := lk_mem h
    simp only [tmrunS, List.mem_cons, Prod.mk.injEq, List.not_mem_nil, or_false] at this
    rcases this with ⟨rfl, rfl⟩ | ⟨rfl, rfl⟩
    · exact vcsrunS0
    · exact vcsrunS1
  · intro k C h
    have := lk_mem h
    simp only [tmrunS, List.mem_cons, Prod.mk.injEq, List.not_mem_nil, or_false] at this
    rcases this with ⟨rfl, rfl⟩ | ⟨rfl, rfl⟩
    · exact lnrunS0
    · exact lnrunS1
noncomputable section
abbrev TTrunN : Tab := T esc.Φ cRunN.roms [cChg, cChgN]
def wrunN_0 : VW := (VW.done [(BE.lit true), (BE.le (IE.len (LE.rom 0)) (IE.lit 50)), (BE.le (IE.lit 1) (IE.len (LE.rom 0))), (BE.not (BE.eq (IE.fn .i64 1 (AL.int .i64 (IE.var .i64 1) (AL.int .i64 (IE.var .i64 2) (AL.int .u64 (IE.var .u64 3) (AL.int .i64 (IE.cel .i64 (LE.rom 0) (IE.lit 0) 0) AL.nil))))) (IE.lit 0)))] (some [(G.i (IE.fn .i64 3 (AL.lst (LE.rom 0) (AL.int .i64 (IE.var .i64 1) (AL.int .i64 (IE.var .i64 2) (AL.int .u64 (IE.var .u64 3) AL.nil))))) (IE.fn .i64 1 (AL.int .i64 (IE.var .i64 1) (AL.int .i64 (IE.var .i64 2) (AL.int .u64 (IE.var .u64 3) (AL.int .i64 (IE.cel .i64 (LE.rom 0) (IE.lit 0) 0) AL.nil))))))]))
def vwrunN : List VW := [wrunN_0]
end
theorem vcrunN_0 : VD TTrunN (st0 cRunN) wrunN_0 := by
  intro ρ kn hp
  have hF : ρ.z.F = esc.Φ := kn.F
  simp only [h_nil, h_cons, d_le, d_eq, d_not, d_var, d_lit, d_cel, d_leq, d_fn, d_and, d_iff, IE.den, LE.den, AL.den, lenV, true_and, and_true, hF, pi1, pi2, pi3, pl2] at hp
  obtain ⟨p1, p2, p3⟩ := hp
  refine all_cons (show (clampK .i64 (ρ.z.F.i 3 [.lst (ρ.z.rl 0), .int .i64 (ρ.i .i64 1), .int .i64 (ρ.i .i64 2), .int .u64 (ρ.i .u64 3)])) = (clampK .i64 (ρ.z.F.i 1 [.int .i64 (ρ.i .i64 1), .int .i64 (ρ.i .i64 2), .int .u64 (ρ.i .u64 3), .int .i64 (clampK .i64 (intV (celV (ρ.z.rl 0) (0 : Int) 0)))])) from ?_) (all_nil)
  all_goals try simp only [hF, pi1, pi2, pi3, pl2]
  have h0 : ¬ errI (ρ.z.rl 0) (ρ.i .i64 1) (ρ.i .i64 2) (ρ.i .u64 3) 0 = 0 := by
    simp only [err_in] at *
    show ¬ errN (ρ.i .i64 1) (ρ.i .i64 2) (ρ.i .u64 3 + ((0 : Nat) : Int)) (clampK .i64 (intV (celV (ρ.z.rl 0) 0 0))) = 0
    rw [show ρ.i .u64 3 + ((0 : Nat) : Int) = ρ.i .u64 3 by omega]
    assumption
  rw [stop_nil (by omega) h0, if_pos (by omega)]
  show clampK .i64 (errN (ρ.i .i64 1) (ρ.i .i64 2) (ρ.i .u64 3 + ((0 : Nat) : Int)) (clampK .i64 (intV (celV (ρ.z.rl 0) 0 0)))) = _
  rw [show ρ.i .u64 3 + ((0 : Nat) : Int) = ρ.i .u64 3 by omega]
theorem told_runN : Sx.Told esc.Φ cRunN := told_vw (cs := [cChg, cChgN]) (all_cons told_chg (all_cons told_chgN (all_nil))) 900 vwrunN (by kernel_rfl) (by kernel_rfl) (by kernel_rfl) post_runN (by kernel_rfl) (by kernel_rfl) (all_cons vcrunN_0 (all_nil))
theorem told_runZ : Sx.Told esc.Φ cRunZ := told_auto (cs := [cChg, cChgN]) (all_cons told_chg (all_cons told_chgN (all_nil))) 900 (by kernel_rfl) (by kernel_rfl) (by kernel_rfl) (post_nil rfl) (by kernel_rfl) (by kernel_rfl)
end Go.Proofs.Ytdfgidogiacmnaa.esc
