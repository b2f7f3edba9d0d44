/- Layer seal: a table, filled. No condition. -/
import Derived.Test.YtllojpnpfhaniaaGreatJf
set_option linter.unusedVariables false
set_option linter.unusedSimpArgs false
set_option linter.deprecated false
namespace Go.Proofs.YtllojpnpfhaniaaGreat.oct
open Go Go.Proofs.YtllojpnpfhaniaaGreat.Sx
noncomputable section
abbrev TTmfill : Tab := TM oct.Φ mFill.roms [] []
def tmfill1 : Cfg := { top := ⟨96, over (opqS 10000 24) [(0, (SV.ptr 1000000 1)), (4, (SV.int .i64 (IE.var .i64 1000)))], ogt (loopTodo (bodyOf (T oct.Φ [] []) 96) 0), [], false, none⟩, rest := [], heap := [(1000000, .mix [(SV.opq 1)] (LE.var 1002) 256 .u32 [(SV.int .i64 (IE.var .i64 1))] 99)], next := 1001000, pc := .lit true :: ([] ++ [(BE.le (IE.lit 0) (IE.var .i64 1000))]) }
def tmfill2 : Cfg := { top := ⟨96, over (opqS 10000 24) [(0, (SV.ptr 1000000 1)), (2, (SV.int .i64 (IE.var .i64 1001))), (3, (SV.int .u32 (IE.var .u32 1003))), (4, (SV.int .i64 (IE.var .i64 1001))), (9, (SV.int .i64 (IE.var .i64 1000)))], ogt (loopTodo (bodyOf (T oct.Φ [] []) 96) 1), [], false, none⟩, rest := [], heap := [(1000000, .mix [(SV.opq 1)] (LE.var 1002) 256 .u32 [(SV.int .i64 (IE.var .i64 1))] 99)], next := 1001000, pc := .lit true :: ([] ++ [(BE.le (IE.lit 0) (IE.var .i64 1000)), (BE.not (BE.le (IE.lit 256) (IE.var .i64 1001))), (BE.le (IE.lit 0) (IE.var .i64 1001)), (BE.le (IE.lit 0) (IE.var .u32 1003))]) }
def tmmfill : List (Nat × Cfg) := [(0, startM 96 mFill.pat mFill.hp mFill.cnt0 (.lit true :: mFill.pre)), (1, tmfill1), (2, tmfill2)]
def selmfill : Sel := [(96, 1, 0, 1), (96, 2, 0, 2)]
def wmfill0_0 : VW := (VW.cut 1 [(BE.lit true)] (Sx.Sub.mk [(.i64, (1000, (IE.lit 0)))] [] [(1002, (LE.rep (AL.int .u32 (IE.lit 0) AL.nil) (IE.lit 256)))] [] [] []))
def vwmfill0 : List VW := [wmfill0_0]
def pcmfill1_0 : List BE := [(BE.lit true), (BE.le (IE.lit 0) (IE.var .i64 1000))]
def wmfill1_0 : VW := (VW.done ((BE.le (IE.lit 256) (IE.var .i64 1000)) :: pcmfill1_0) (some [(G.l (LE.fn 2 (AL.int .i64 (IE.lit 256) AL.nil)) (LE.var 1002))]))
def wmfill1_1 : VW := (VW.cut 2 ((BE.not (BE.le (IE.lit 256) (IE.var .i64 1000))) :: pcmfill1_0) (Sx.Sub.mk [(.i64, (1000, (IE.lit 0))), (.u32, (1003, (IE.var .i64 1000))), (.i64, (1001, (IE.var .i64 1000)))] [] [(1002, (LE.var 1002))] [] [] []))
def vwmfill1 : List VW := [wmfill1_0, wmfill1_1]
def pcmfill2_0 : List BE := [(BE.lit true), (BE.le (IE.lit 0) (IE.var .i64 1000)), (BE.not (BE.le (IE.lit 256) (IE.var .i64 1001))), (BE.le (IE.lit 0) (IE.var .i64 1001)), (BE.le (IE.lit 0) (IE.var .u32 1003))]
def wmfill2_0 : VW := (VW.cut 1 ((BE.le (IE.lit 8) (IE.var .i64 1000)) :: pcmfill2_0) (Sx.Sub.mk [(.i64, (1000, (IE.add (IE.var .i64 1001) (IE.lit 1))))] [] [(1002, (LE.set (LE.var 1002) (IE.var .i64 1001) (AL.int .u32 (IE.var .u32 1003) AL.nil)))] [] [] []))
def wmfill2_1 : VW := (VW.cut 2 ((BE.not (BE.le (IE.lit 8) (IE.var .i64 1000))) :: pcmfill2_0) (Sx.Sub.mk [(.i64, (1000, (IE.add (IE.var .i64 1000) (IE.lit 1)))), (.u32, (1003, (IE.bin BinOp.xor .u32 (IE.bin BinOp.shr .u32 (IE.var .u32 1003) (IE.lit 1)) (IE.mul (IE.lit 3988292384) (IE.bin BinOp.and .u32 (IE.var .u32 1003) (IE.lit 1)))))), (.i64, (1001, (IE.var .i64 1001)))] [] [(1002, (LE.var 1002))] [] [] []))
def vwmfill2 : List VW := [wmfill2_0, wmfill2_1]
def vwmfill : Nat → List VW
 | 0 => vwmfill0
 | 1 => vwmfill1
 | 2 => vwmfill2
 | _ => []
end
def invmfill : Nat → Lt → Prop
 | 1, l => (l.l 1002) = tabL (l.i .i64 1000).toNat ∧ (l.i .i64 1000) ≤ 256
 | 2, l => (l.l 1002) = tabL (l.i .i64 1001).toNat ∧ (l.i .u32 1003) = (stn (l.i .i64 1000).toNat (l.i .i64 1001).toNat : Int) ∧ (l.i .i64 1000) ≤ 8 ∧ (l.i .i64 1001) < 256
 | _, _ => True
def msmfill : Nat → Lt → Nat
 | 0, l => 5000
 | 1, l => 10 * (256 - (l.i .i64 1000).toNat) + 20
 | 2, l => 10 * (256 - (l.i .i64 1001).toNat) - 1 - (l.i .i64 1000).toNat + 20
 | _, _ => 0
theorem vcmfill0_0 : VC TTmfill invmfill msmfill 0 (startM 96 mFill.pat mFill.hp mFill.cnt0 (.lit true :: mFill.pre)) wmfill0_0 := by
 intro ρ kn hi hp
 have hF : ρ.z.F = oct.Φ := kn.F
 simp only [h_nil, h_cons, d_le, d_eq, d_not, d_var, d_lit, d_cel, d_leq, d_fn, d_and, d_iff, IE.den, LE.den, AL.den, lenV, true_and, and_true, hF, pi2, pi3, pi4, pi5, pi6, pi7, pi20, pl1, pi21, pi22, pl2] at hp
 refine (show ((List.replicate (256 : Int).toNat [Go.Value.int .u32 (0 : Int)]) = tabL (0 : Int).toNat ∧ (0 : Int) ≤ 256) ∧ ((10 * (256 - (0 : Int).toNat) + 20 : Nat) < 5000) from ?_)
 exact ⟨⟨tab_0, by omega⟩, by omega⟩
def ivmfill1 (ρ : Rho) : Prop := (ρ.l 1002) = tabL (ρ.i .i64 1000).toNat ∧ (ρ.i .i64 1000) ≤ 256
theorem vcmfill1_0 : VC TTmfill invmfill msmfill 1 tmfill1 wmfill1_0 := by
 intro ρ kn hi hp
 have hi : ivmfill1 ρ := hi
 unfold ivmfill1 at hi
 have hF : ρ.z.F = oct.Φ := kn.F
 simp only [h_nil, h_cons, d_le, d_eq, d_not, d_var, d_lit, d_cel, d_leq, d_fn, d_and, d_iff, IE.den, LE.den, AL.den, lenV, true_and, and_true, pcmfill1_0, hF, pi2, pi3, pi4, pi5, pi6, pi7, pi20, pl1, pi21, pi22, pl2] at hp
 obtain ⟨p1, p2⟩ := hp
 refine all_cons (show (ρ.z.F.l 2 [.int .i64 (256 : Int)]) = (ρ.l 1002) from ?_) (all_nil)
 all_goals try simp only [hF, pi2, pi3, pi4, pi5, pi6, pi7, pi20, pl1, pi21, pi22, pl2]
 all_goals
  obtain ⟨h1, h2⟩ := hi
  rw [h1, show (ρ.i .i64 1000).toNat = 256 by omega]
  rfl
theorem vcmfill1_1 : VC TTmfill invmfill msmfill 1 tmfill1 wmfill1_1 := by
 intro ρ kn hi hp
 have hi : ivmfill1 ρ := hi
 unfold ivmfill1 at hi
 have hF : ρ.z.F = oct.Φ := kn.F
 simp only [h_nil, h_cons, d_le, d_eq, d_not, d_var, d_lit, d_cel, d_leq, d_fn, d_and, d_iff, IE.den, LE.den, AL.den, lenV, true_and, and_true, pcmfill1_0, hF, pi2, pi3, pi4, pi5, pi6, pi7, pi20, pl1, pi21, pi22, pl2] at hp
 obtain ⟨p1, p2⟩ := hp
 refine (show ((ρ.l 1002) = tabL (ρ.i .i64 1000).toNat ∧ (ρ.i .i64 1000) = (stn (0 : Int).toNat (ρ.i .i64 1000).toNat : Int) ∧ (0 : Int) ≤ 8 ∧ (ρ.i .i64 1000) < 256) ∧ ((10 * (256 - (ρ.i .i64 1000).toNat) - 1 - (0 : Int).toNat + 20 : Nat) < 10 * (256 - (ρ.i .i64 1000).toNat) + 20) from ?_)
 obtain ⟨h1, h2⟩ := hi
 refine ⟨⟨h1, ?_, by omega, by omega⟩, by omega⟩
 show ρ.i .i64 1000 = ((ρ.i .i64 1000).toNat : Int)
 omega
def ivmfill2 (ρ : Rho) : Prop := (ρ.l 1002) = tabL (ρ.i .i64 1001).toNat ∧ (ρ.i .u32 1003) = (stn (ρ.i .i64 1000).toNat (ρ.i .i64 1001).toNat : Int) ∧ (ρ.i .i64 1000) ≤ 8 ∧ (ρ.i .i64 1001) < 256
theorem vcmfill2_0 : VC TTmfill invmfill msmfill 2 tmfill2 wmfill2_0 := by
 intro ρ kn hi hp
 have hi : ivmfill2 ρ := hi
 unfold ivmfill2 at hi
 have hF : ρ.z.F = oct.Φ := kn.F
 simp only [h_nil, h_cons, d_le, d_eq, d_not, d_var, d_lit, d_cel, d_leq, d_fn, d_and, d_iff, IE.den, LE.den, AL.den, lenV, true_and, and_true, pcmfill2_0, hF, pi2, pi3, pi4, pi5, pi6, pi7, pi20, pl1, pi21, pi22, pl2] at hp
 obtain ⟨p1, p2, p3, p4, p5⟩ := hp
 refine (show (((ρ.l 1002).set (ρ.i .i64 1001).toNat [Go.Value.int .u32 (ρ.i .u32 1003)]) = tabL ((ρ.i .i64 1001) + (1 : Int)).toNat ∧ ((ρ.i .i64 1001) + (1 : Int)) ≤ 256) ∧ ((10 * (256 - ((ρ.i .i64 1001) + (1 : Int)).toNat) + 20 : Nat) < 10 * (256 - (ρ.i .i64 1001).toNat) - 1 - (ρ.i .i64 1000).toNat + 20) from ?_)
 obtain ⟨h1, h2, h3, h4⟩ := hi
 rw [show (ρ.i .i64 1000).toNat = 8 by omega] at h2
 rw [h1, h2, tab_set (by omega), show (ρ.i .i64 1001 + 1).toNat = (ρ.i .i64 1001).toNat + 1 by omega]
 exact ⟨⟨rfl, by omega⟩, by omega⟩
theorem vcmfill2_1 : VC TTmfill invmfill msmfill 2 tmfill2 wmfill2_1 := by
 intro ρ kn hi hp
 have hi : ivmfill2 ρ := hi
 unfold ivmfill2 at hi
 have hF : ρ.z.F = oct.Φ := kn.F
 simp only [h_nil, h_cons, d_le, d_eq, d_not, d_var, d_lit, d_cel, d_leq, d_fn, d_and, d_iff, IE.den, LE.den, AL.den, lenV, true_and, and_true, pcmfill2_0, hF, pi2, pi3, pi4, pi5, pi6, pi7, pi20, pl1, pi21, pi22, pl2] at hp
 obtain ⟨p1, p2, p3, p4, p5⟩ := hp
 refine (show ((ρ.l 1002) = tabL (ρ.i .i64 1001).toNat ∧ (binI BinOp.xor .u32 (binI BinOp.shr .u32 (ρ.i .u32 1003) (1 : Int)) ((3988292384 : Int) * (binI BinOp.and .u32 (ρ.i .u32 1003) (1 : Int)))) = (stn ((ρ.i .i64 1000) + (1 : Int)).toNat (ρ.i .i64 1001).toNat : Int) ∧ ((ρ.i .i64 1000) + (1 : Int)) ≤ 8 ∧ (ρ.i .i64 1001) < 256) ∧ ((10 * (256 - (ρ.i .i64 1001).toNat) - 1 - ((ρ.i .i64 1000) + (1 : Int)).toNat + 20 : Nat) < 10 * (256 - (ρ.i .i64 1001).toNat) - 1 - (ρ.i .i64 1000).toNat + 20) from ?_)
 obtain ⟨h1, h2, h3, h4⟩ := hi
 rw [show (ρ.i .i64 1000 + 1).toNat = (ρ.i .i64 1000).toNat + 1 by omega, stn_succ]
 exact ⟨⟨h1, up_mul (stn_lt _ _ (by omega)) h2, by omega, h4⟩, by omega⟩
theorem vcsmfill0 : ∀ v ∈ vwmfill 0, VC TTmfill invmfill msmfill 0 (startM 96 mFill.pat mFill.hp mFill.cnt0 (.lit true :: mFill.pre)) v := all_cons vcmfill0_0 (all_nil)
theorem okmfill0 : cfgOk (startM 96 mFill.pat mFill.hp mFill.cnt0 (.lit true :: mFill.pre)) = true := by kernel_rfl
theorem sgmfill0 : segM mFill.roms mFill (seg TTmfill selmfill 900 tmmfill (startM 96 mFill.pat mFill.hp mFill.cnt0 (.lit true :: mFill.pre))) = (true, codesR tmmfill (views (seg TTmfill selmfill 900 tmmfill (startM 96 mFill.pat mFill.hp mFill.cnt0 (.lit true :: mFill.pre)))), vwmfill 0) := by kernel_rfl
theorem vcsmfill1 : ∀ v ∈ vwmfill 1, VC TTmfill invmfill msmfill 1 tmfill1 v := all_cons vcmfill1_0 (all_cons vcmfill1_1 (all_nil))
theorem okmfill1 : cfgOk tmfill1 = true := by kernel_rfl
theorem sgmfill1 : segM mFill.roms mFill (seg TTmfill selmfill 900 tmmfill tmfill1) = (true, codesR tmmfill (views (seg TTmfill selmfill 900 tmmfill tmfill1)), vwmfill 1) := by kernel_rfl
theorem vcsmfill2 : ∀ v ∈ vwmfill 2, VC TTmfill invmfill msmfill 2 tmfill2 v := all_cons vcmfill2_0 (all_cons vcmfill2_1 (all_nil))
theorem okmfill2 : cfgOk tmfill2 = true := by kernel_rfl
theorem sgmfill2 : segM mFill.roms mFill (seg TTmfill selmfill 900 tmmfill tmfill2) = (true, codesR tmmfill (views (seg TTmfill selmfill 900 tmmfill tmfill2)), vwmfill 2) := by kernel_rfl
theorem lnmfill0 : ∀ ρ, Known TTmfill (startM 96 mFill.pat mFill.hp mFill.cnt0 (.lit true :: mFill.pre)) ρ → invmfill 0 ρ.lt → Holds ρ (leanOf (Cfg.pc (startM 96 mFill.pat mFill.hp mFill.cnt0 (.lit true :: mFill.pre)))) := by
 intro ρ _ _
 exact (show Holds ρ [] from fun p hp => by cases hp)
theorem lnmfill1 : ∀ ρ, Known TTmfill tmfill1 ρ → invmfill 1 ρ.lt → Holds ρ (leanOf (Cfg.pc tmfill1)) := by
 intro ρ _ _
 exact (show Holds ρ [] from fun p hp => by cases hp)
theorem lnmfill2 : ∀ ρ, Known TTmfill tmfill2 ρ → invmfill 2 ρ.lt → Holds ρ (leanOf (Cfg.pc tmfill2)) := by
 intro ρ _ _
 exact (show Holds ρ [] from fun p hp => by cases hp)
theorem told_mfill : Sx.MTold oct.Φ mFill := by
 refine mtold_of (cs := []) (ms' := []) (all_nil) (all_nil) (sel := selmfill) 900 tmmfill invmfill msmfill vwmfill 0 (pc0 := (.lit true :: mFill.pre)) (by kernel_rfl) (by kernel_rfl) (by kernel_rfl) (by kernel_rfl) (mpost_nil rfl) ?_ ?_ ?_ rfl (fun ρ _ h => h.cons (p := .lit true) (by simp only [BE.den])) (fun _ _ _ _ _ => trivial) ?_
 ·intro k C h
  have := lk_mem h
  simp only [tmmfill, List.mem_cons, Prod.mk.injEq, List.not_mem_nil, or_false] at this
  rcases this with ⟨rfl, rfl⟩ | ⟨rfl, rfl⟩ | ⟨rfl, rfl⟩
  ·exact okmfill0
  ·exact okmfill1
  ·exact okmfill2
 ·intro k C h
  have := lk_mem h
  simp only [tmmfill, List.mem_cons, Prod.mk.injEq, List.not_mem_nil, or_false] at this
  rcases this with ⟨rfl, rfl⟩ | ⟨rfl, rfl⟩ | ⟨rfl, rfl⟩
  ·exact sgmfill0
  ·exact sgmfill1
  ·exact sgmfill2
 ·intro k C h
  have := lk_mem h
  simp only [tmmfill, List.mem_cons, Prod.mk.injEq, List.not_mem_nil, or_false] at this
  rcases this with ⟨rfl, rfl⟩ | ⟨rfl, rfl⟩ | ⟨rfl, rfl⟩
  ·exact vcsmfill0
  ·exact vcsmfill1
  ·exact vcsmfill2
 ·intro k C h
  have := lk_mem h
  simp only [tmmfill, List.mem_cons, Prod.mk.injEq, List.not_mem_nil, or_false] at this
  rcases this with ⟨rfl, rfl⟩ | ⟨rfl, rfl⟩ | ⟨rfl, rfl⟩
  ·exact lnmfill0
  ·exact lnmfill1
  ·exact lnmfill2
end Go.Proofs.YtllojpnpfhaniaaGreat.oct
