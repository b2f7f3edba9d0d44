/- Layer seal: the document's sum, told. No condition. -/
import Derived.Test.YthbnjmmkjpoahaaQm
set_option linter.unusedVariables false
set_option linter.unusedSimpArgs false
set_option linter.deprecated false
namespace Go.Proofs.Ythbnjmmkjpoahaa.oct
open Go Go.Proofs.Ythbnjmmkjpoahaa.Sx
noncomputable section
abbrev TTrsum : Tab := T oct.Φ cRSum.roms []
def trsum1 : Cfg := { top := ⟨13, over (opqS 10000 34) [(0, (SV.rom 0 (IE.lit 0) (IE.len (LE.rom 0)) none)), (3, (SV.int .u32 (IE.var .u32 1000))), (4, (SV.int .i64 (IE.var .i64 1001)))], ogt (loopTodo (bodyOf (T oct.Φ [] []) 13) 0), [], false, none⟩, rest := [], heap := [], next := 1, pc := .lit true :: ([] ++ [(BE.le (IE.lit 0) (IE.var .i64 1001)), (BE.le (IE.var .i64 1001) (IE.len (LE.rom 0)))]) }
def trsum2 : Cfg := { top := ⟨13, over (opqS 10000 34) [(0, (SV.rom 0 (IE.lit 0) (IE.len (LE.rom 0)) none)), (3, (SV.int .u32 (IE.var .u32 1000))), (4, (SV.int .i64 (IE.var .i64 1002))), (5, (SV.int .i64 (IE.var .i64 1001)))], ogt (loopTodo (bodyOf (T oct.Φ [] []) 13) 1), [], false, none⟩, rest := [], heap := [], next := 1, pc := .lit true :: ([] ++ [(BE.le (IE.lit 0) (IE.var .i64 1001)), (BE.le (IE.lit 0) (IE.var .i64 1002)), (BE.not (BE.le (IE.len (LE.rom 0)) (IE.var .i64 1002)))]) }
def tmrsum : List (Nat × Cfg) := [(0, startF 13 cRSum.pat (.lit true :: cRSum.pre)), (1, trsum1), (2, trsum2)]
def selrsum : Sel := [(13, 1, 0, 1), (13, 2, 0, 2)]
def wrsum0_0 : VW := (VW.cut 1 [(BE.lit true)] (Sx.Sub.mk [(.i64, (1001, (IE.lit 0))), (.u32, (1000, (IE.lit 4294967295)))] [] [] [] [] []))
def vwrsum0 : List VW := [wrsum0_0]
def pcrsum1_0 : List BE := [(BE.lit true), (BE.le (IE.lit 0) (IE.var .i64 1001)), (BE.le (IE.var .i64 1001) (IE.len (LE.rom 0)))]
def wrsum1_0 : VW := (VW.done ((BE.le (IE.len (LE.rom 0)) (IE.var .i64 1001)) :: pcrsum1_0) (some [(G.i (IE.fn .u32 20 (AL.lst (LE.rom 0) AL.nil)) (IE.sub (IE.lit 4294967295) (IE.var .u32 1000)))]))
def wrsum1_1 : VW := (VW.cut 2 ((BE.not (BE.le (IE.len (LE.rom 0)) (IE.var .i64 1001))) :: pcrsum1_0) (Sx.Sub.mk [(.i64, (1001, (IE.lit 0))), (.i64, (1002, (IE.var .i64 1001))), (.u32, (1000, (IE.bin BinOp.xor .u32 (IE.var .u32 1000) (IE.cel .u8 (LE.rom 0) (IE.var .i64 1001) 0))))] [] [] [] [] []))
def vwrsum1 : List VW := [wrsum1_0, wrsum1_1]
def pcrsum2_0 : List BE := [(BE.lit true), (BE.le (IE.lit 0) (IE.var .i64 1001)), (BE.le (IE.lit 0) (IE.var .i64 1002)), (BE.not (BE.le (IE.len (LE.rom 0)) (IE.var .i64 1002)))]
def pcrsum2_1 : List BE := ((BE.not (BE.le (IE.lit 8) (IE.var .i64 1001))) :: pcrsum2_0)
def wrsum2_0 : VW := (VW.cut 1 ((BE.le (IE.lit 8) (IE.var .i64 1001)) :: pcrsum2_0) (Sx.Sub.mk [(.i64, (1001, (IE.add (IE.var .i64 1002) (IE.lit 1)))), (.u32, (1000, (IE.var .u32 1000)))] [] [] [] [] []))
def wrsum2_1 : VW := (VW.cut 2 ((BE.eq (IE.bin BinOp.rem .u32 (IE.var .u32 1000) (IE.lit 2)) (IE.lit 1)) :: pcrsum2_1) (Sx.Sub.mk [(.i64, (1001, (IE.add (IE.var .i64 1001) (IE.lit 1)))), (.i64, (1002, (IE.var .i64 1002))), (.u32, (1000, (IE.bin BinOp.xor .u32 (IE.bin BinOp.quo .u32 (IE.var .u32 1000) (IE.lit 2)) (IE.lit 3988292384))))] [] [] [] [] []))
def wrsum2_2 : VW := (VW.cut 2 ((BE.not (BE.eq (IE.bin BinOp.rem .u32 (IE.var .u32 1000) (IE.lit 2)) (IE.lit 1))) :: pcrsum2_1) (Sx.Sub.mk [(.i64, (1001, (IE.add (IE.var .i64 1001) (IE.lit 1)))), (.i64, (1002, (IE.var .i64 1002))), (.u32, (1000, (IE.bin BinOp.quo .u32 (IE.var .u32 1000) (IE.lit 2))))] [] [] [] [] []))
def vwrsum2 : List VW := [wrsum2_0, wrsum2_1, wrsum2_2]
def vwrsum : Nat → List VW
  | 0 => vwrsum0
  | 1 => vwrsum1
  | 2 => vwrsum2
  | _ => []
end
def invrsum : Nat → Lt → Prop
  | 1, l => (l.i .u32 1000) = (crcT (l.z.rl 0) (l.i .i64 1001).toNat : Int)
  | 2, l => (l.i .u32 1000) = (inB (l.z.rl 0) (l.i .i64 1002).toNat (l.i .i64 1001).toNat : Int) ∧ (l.i .i64 1001) ≤ 8
  | _, _ => True
def msrsum : Nat → Lt → Nat
  | 0, l => 20 * (l.z.rl 0).length + 1
  | 1, l => 20 * ((l.z.rl 0).length - (l.i .i64 1001).toNat)
  | 2, l => 20 * ((l.z.rl 0).length - (l.i .i64 1002).toNat) - 1 - (l.i .i64 1001).toNat
  | _, _ => 0
theorem vcrsum0_0 : VC TTrsum invrsum msrsum 0 (startF 13 cRSum.pat (.lit true :: cRSum.pre)) wrsum0_0 := by
  intro ρ kn hi hp
  have hF : ρ.z.F = oct.Φ := kn.F
  simp only [h_nil, h_cons, d_le, d_eq, d_not, d_var, d_lit, d_cel, d_leq, d_fn, d_and, d_iff, IE.den, LE.den, AL.den, lenV, true_and, and_true, hF, pi2, pi3, pi4, pi5, pi6, pi7, pi20] at hp
  refine (show ((4294967295 : Int) = (crcT (ρ.z.rl 0) (0 : Int).toNat : Int)) ∧ ((20 * ((ρ.z.rl 0).length - (0 : Int).toNat) : Nat) < 20 * (ρ.z.rl 0).length + 1) from ?_)
  exact ⟨rfl, by omega⟩
def ivrsum1 (ρ : Rho) : Prop := (ρ.i .u32 1000) = (crcT (ρ.z.rl 0) (ρ.i .i64 1001).toNat : Int)
theorem vcrsum1_0 : VC TTrsum invrsum msrsum 1 trsum1 wrsum1_0 := by
  intro ρ kn hi hp
  have hi : ivrsum1 ρ := hi
  unfold ivrsum1 at hi
  have hF : ρ.z.F = oct.Φ := kn.F
  simp only [h_nil, h_cons, d_le, d_eq, d_not, d_var, d_lit, d_cel, d_leq, d_fn, d_and, d_iff, IE.den, LE.den, AL.den, lenV, true_and, and_true, pcrsum1_0, hF, pi2, pi3, pi4, pi5, pi6, pi7, pi20] at hp
  obtain ⟨p1, p2, p3⟩ := hp
  refine all_cons (show (clampK .u32 (ρ.z.F.i 20 [.lst (ρ.z.rl 0)])) = ((4294967295 : Int) - (ρ.i .u32 1000)) from ?_) (all_nil)
  all_goals try simp only [hF, pi2, pi3, pi4, pi5, pi6, pi7, pi20]
  rw [sum_in, hi]
  unfold sumI
  rw [show (ρ.i .i64 1001).toNat = (ρ.z.rl 0).length by omega]
theorem vcrsum1_1 : VC TTrsum invrsum msrsum 1 trsum1 wrsum1_1 := by
  intro ρ kn hi hp
  have hi : ivrsum1 ρ := hi
  unfold ivrsum1 at hi
  have hF : ρ.z.F = oct.Φ := kn.F
  simp only [h_nil, h_cons, d_le, d_eq, d_not, d_var, d_lit, d_cel, d_leq, d_fn, d_and, d_iff, IE.den, LE.den, AL.den, lenV, true_and, and_true, pcrsum1_0, hF, pi2, pi3, pi4, pi5, pi6, pi7, pi20] at hp
  obtain ⟨p1, p2, p3⟩ := hp
  refine (show ((binI BinOp.xor .u32 (ρ.i .u32 1000) (clampK .u8 (intV (celV (ρ.z.rl 0) (ρ.i .i64 1001) 0)))) = (inB (ρ.z.rl 0) (ρ.i .i64 1001).toNat (0 : Int).toNat : Int) ∧ (0 : Int) ≤ 8) ∧ ((20 * ((ρ.z.rl 0).length - (ρ.i .i64 1001).toNat) - 1 - (0 : Int).toNat : Nat) < 20 * ((ρ.z.rl 0).length - (ρ.i .i64 1001).toNat)) from ?_)
  rw [b_z (by omega)]
  exact ⟨⟨inB_0 hi, by omega⟩, by omega⟩
def ivrsum2 (ρ : Rho) : Prop := (ρ.i .u32 1000) = (inB (ρ.z.rl 0) (ρ.i .i64 1002).toNat (ρ.i .i64 1001).toNat : Int) ∧ (ρ.i .i64 1001) ≤ 8
theorem vcrsum2_0 : VC TTrsum invrsum msrsum 2 trsum2 wrsum2_0 := by
  intro ρ kn hi hp
  have hi : ivrsum2 ρ := hi
  unfold ivrsum2 at hi
  have hF : ρ.z.F = oct.Φ := kn.F
  simp only [h_nil, h_cons, d_le, d_eq, d_not, d_var, d_lit, d_cel, d_leq, d_fn, d_and, d_iff, IE.den, LE.den, AL.den, lenV, true_and, and_true, pcrsum2_0, hF, pi2, pi3, pi4, pi5, pi6, pi7, pi20] at hp
  obtain ⟨p1, p2, p3, p4⟩ := hp
  refine (show ((ρ.i .u32 1000) = (crcT (ρ.z.rl 0) ((ρ.i .i64 1002) + (1 : Int)).toNat : Int)) ∧ ((20 * ((ρ.z.rl 0).length - ((ρ.i .i64 1002) + (1 : Int)).toNat) : Nat) < 20 * ((ρ.z.rl 0).length - (ρ.i .i64 1002).toNat) - 1 - (ρ.i .i64 1001).toNat) from ?_)
  obtain ⟨h1, h2⟩ := hi
  rw [show (ρ.i .i64 1002 + 1).toNat = (ρ.i .i64 1002).toNat + 1 by omega, ← inB_8]
  rw [show (ρ.i .i64 1001).toNat = 8 by omega] at h1
  exact ⟨h1, by omega⟩
theorem vcrsum2_1 : VC TTrsum invrsum msrsum 2 trsum2 wrsum2_1 := by
  intro ρ kn hi hp
  have hi : ivrsum2 ρ := hi
  unfold ivrsum2 at hi
  have hF : ρ.z.F = oct.Φ := kn.F
  simp only [h_nil, h_cons, d_le, d_eq, d_not, d_var, d_lit, d_cel, d_leq, d_fn, d_and, d_iff, IE.den, LE.den, AL.den, lenV, true_and, and_true, pcrsum2_1, pcrsum2_0, hF, pi2, pi3, pi4, pi5, pi6, pi7, pi20] at hp
  obtain ⟨p1, p2, p3, p4, p5⟩ := hp
  refine (show ((binI BinOp.xor .u32 (binI BinOp.quo .u32 (ρ.i .u32 1000) (2 : Int)) (3988292384 : Int)) = (inB (ρ.z.rl 0) (ρ.i .i64 1002).toNat ((ρ.i .i64 1001) + (1 : Int)).toNat : Int) ∧ ((ρ.i .i64 1001) + (1 : Int)) ≤ 8) ∧ ((20 * ((ρ.z.rl 0).length - (ρ.i .i64 1002).toNat) - 1 - ((ρ.i .i64 1001) + (1 : Int)).toNat : Nat) < 20 * ((ρ.z.rl 0).length - (ρ.i .i64 1002).toNat) - 1 - (ρ.i .i64 1001).toNat) from ?_)
  obtain ⟨h1, h2⟩ := hi
  rw [show (ρ.i .i64 1001 + 1).toNat = (ρ.i .i64 1001).toNat + 1 by omega, ← inB_s]
  first
    | exact ⟨⟨up_odd (inB_lt _ _ _) h1 (by assumption), by omega⟩, by omega⟩
    | exact ⟨⟨up_even (inB_lt _ _ _) h1 (by assumption), by omega⟩, by omega⟩
theorem vcrsum2_2 : VC TTrsum invrsum msrsum 2 trsum2 wrsum2_2 := by
  intro ρ kn hi hp
  have hi : ivrsum2 ρ := hi
  unfold ivrsum2 at hi
  have hF : ρ.z.F = oct.Φ := kn.F
  simp only [h_nil, h_cons, d_le, d_eq, d_not, d_var, d_lit, d_cel, d_leq, d_fn, d_and, d_iff, IE.den, LE.den, AL.den, lenV, true_and, and_true, pcrsum2_1, pcrsum2_0, hF, pi2, pi3, pi4, pi5, pi6, pi7, pi20] at hp
  obtain ⟨p1, p2, p3, p4, p5⟩ := hp
  refine (show ((binI BinOp.quo .u32 (ρ.i .u32 1000) (2 : Int)) = (inB (ρ.z.rl 0) (ρ.i .i64 1002).toNat ((ρ.i .i64 1001) + (1 : Int)).toNat : Int) ∧ ((ρ.i .i64 1001) + (1 : Int)) ≤ 8) ∧ ((20 * ((ρ.z.rl 0).length - (ρ.i .i64 1002).toNat) - 1 - ((ρ.i .i64 1001) + (1 : Int)).toNat : Nat) < 20 * ((ρ.z.rl 0).length - (ρ.i .i64 1002).toNat) - 1 - (ρ.i .i64 1001).toNat) from ?_)
  obtain ⟨h1, h2⟩ := hi
  rw [show (ρ.i .i64 1001 + 1).toNat = (ρ.i .i64 1001).toNat + 1 by omega, ← inB_s]
  first
    | exact ⟨⟨up_odd (inB_lt _ _ _) h1 (by assumption), by omega⟩, by omega⟩
    | exact ⟨⟨up_even (inB_lt _ _ _) h1 (by assumption), by omega⟩, by omega⟩
theorem vcsrsum0 : ∀ v ∈ vwrsum 0, VC TTrsum invrsum msrsum 0 (startF 13 cRSum.pat (.lit true :: cRSum.pre)) v := all_cons vcrsum0_0 (all_nil)
theorem okrsum0 : cfgOk (startF 13 cRSum.pat (.lit true :: cRSum.pre)) = true := by kernel_rfl
theorem sgrsum0 : segL cRSum.roms cRSum (seg TTrsum selrsum 900 tmrsum (startF 13 cRSum.pat (.lit true :: cRSum.pre))) = (true, codesR tmrsum (views (seg TTrsum selrsum 900 tmrsum (startF 13 cRSum.pat (.lit true :: cRSum.pre)))), vwrsum 0) := by kernel_rfl
theorem vcsrsum1 : ∀ v ∈ vwrsum 1, VC TTrsum invrsum msrsum 1 trsum1 v := all_cons vcrsum1_0 (all_cons vcrsum1_1 (all_nil))
theorem okrsum1 : cfgOk trsum1 = true := by kernel_rfl
theorem sgrsum1 : segL cRSum.roms cRSum (seg TTrsum selrsum 900 tmrsum trsum1) = (true, codesR tmrsum (views (seg TTrsum selrsum 900 tmrsum trsum1)), vwrsum 1) := by kernel_rfl
theorem vcsrsum2 : ∀ v ∈ vwrsum 2, VC TTrsum invrsum msrsum 2 trsum2 v := all_cons vcrsum2_0 (all_cons vcrsum2_1 (all_cons vcrsum2_2 (all_nil)))
theorem okrsum2 : cfgOk trsum2 = true := by kernel_rfl
theorem sgrsum2 : segL cRSum.roms cRSum (seg TTrsum selrsum 900 tmrsum trsum2) = (true, codesR tmrsum (views (seg TTrsum selrsum 900 tmrsum trsum2)), vwrsum 2) := by kernel_rfl
theorem lnrsum0 : ∀ ρ, Known TTrsum (startF 13 cRSum.pat (.lit true :: cRSum.pre)) ρ → invrsum 0 ρ.lt → Holds ρ (leanOf (Cfg.pc (startF 13 cRSum.pat (.lit true :: cRSum.pre)))) := by
  intro ρ _ _
  exact (show Holds ρ [] from fun p hp => by cases hp)
theorem lnrsum1 : ∀ ρ, Known TTrsum trsum1 ρ → invrsum 1 ρ.lt → Holds ρ (leanOf (Cfg.pc trsum1)) := by
  intro ρ _ _
  exact (show Holds ρ [] from fun p hp => by cases hp)
theorem lnrsum2 : ∀ ρ, Known TTrsum trsum2 ρ → invrsum 2 ρ.lt → Holds ρ (leanOf (Cfg.pc trsum2)) := by
  intro ρ _ _
  exact (show Holds ρ [] from fun p hp => by cases hp)
theorem told_rsum : Sx.Told oct.Φ cRSum := by
  refine told_of (cs := []) (all_nil) (sel := selrsum) 900 tmrsum invrsum msrsum vwrsum 0 (pc0 := (.lit true :: cRSum.pre)) (by kernel_rfl) (by kernel_rfl) (by kernel_rfl) (post_nil rfl) ?_ ?_ ?_ rfl (fun ρ _ h => h.cons (p := .lit true) (by simp only [BE.den])) (fun _ _ _ _ => trivial) ?_
  · intro k C h
    have := lk_mem h
    simp only [tmrsum, List.mem_cons, Prod.mk.injEq, List.not_mem_nil, or_false] at this
    rcases this with ⟨rfl, rfl⟩ | ⟨rfl, rfl⟩ | ⟨rfl, rfl⟩
    · exact okrsum0
    · exact okrsum1
    · exact okrsum2
  · intro k C h
    have := lk_mem h
    simp only [tmrsum, List.mem_cons, Prod.mk.injEq, List.not_mem_nil, or_false] at this
    rcases this with ⟨rfl, rfl⟩ | ⟨rfl, rfl⟩ | ⟨rfl, rfl⟩
    · exact sgrsum0
    · exact sgrsum1
    · exact sgrsum2
  · intro k C h
    have := lk_mem h
    simp only [tmrsum, List.mem_cons, Prod.mk.injEq, List.not_mem_nil, or_false] at this
    rcases this with ⟨rfl, rfl⟩ | ⟨rfl, rfl⟩ | ⟨rfl, rfl⟩
    · exact vcsrsum0
    · exact vcsrsum1
    · exact vcsrsum2
  · intro k C h
    have := lk_mem h
    simp only [tmrsum, List.mem_cons, Prod.mk.injEq, List.not_mem_nil, or_false] at this
    rcases this with ⟨rfl, rfl⟩ | ⟨rfl, rfl⟩ | ⟨rfl, rfl⟩
    · exact lnrsum0
    · exact lnrsum1
    · exact lnrsum2
end Go.Proofs.Ythbnjmmkjpoahaa.oct
