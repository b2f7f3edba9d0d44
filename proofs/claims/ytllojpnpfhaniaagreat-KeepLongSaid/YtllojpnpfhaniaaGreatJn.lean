/- Layer seal: the frame of nothing. No condition. -/
import Derived.Test.YtllojpnpfhaniaaGreatJf
import Derived.Test.YtllojpnpfhaniaaGreatQe
set_option linter.unusedVariables false
set_option linter.unusedSimpArgs false
set_option linter.deprecated false
namespace Go.Proofs.YtllojpnpfhaniaaGreat.oct
open Go Go.Proofs.YtllojpnpfhaniaaGreat.Sx
noncomputable section
abbrev TTmfilt : Tab := TM oct.Φ mFill2.roms [] []
def tmfilt1 : Cfg := { top := ⟨96, over (opqS 10000 24) [(0, (SV.ptr 1000000 0)), (4, (SV.int .i64 (IE.var .i64 1000)))], ogt (loopTodo (bodyOf (T oct.Φ [] []) 96) 0), [], false, none⟩, rest := [], heap := [(1000000, .rowl (LE.var 1002) (IE.lit 256) [(CK.int .u32)] 97 1000001 1)], next := 1001000, pc := .lit true :: ([] ++ [(BE.le (IE.lit 0) (IE.var .i64 1000))]) }
def tmfilt2 : Cfg := { top := ⟨96, over (opqS 10000 24) [(0, (SV.ptr 1000000 0)), (2, (SV.int .i64 (IE.var .i64 1001))), (3, (SV.int .u32 (IE.var .u32 1003))), (4, (SV.int .i64 (IE.var .i64 1001))), (9, (SV.int .i64 (IE.var .i64 1000)))], ogt (loopTodo (bodyOf (T oct.Φ [] []) 96) 1), [], false, none⟩, rest := [], heap := [(1000000, .rowl (LE.var 1002) (IE.lit 256) [(CK.int .u32)] 97 1000001 1)], next := 1001000, pc := .lit true :: ([] ++ [(BE.le (IE.lit 0) (IE.var .i64 1000)), (BE.not (BE.le (IE.lit 256) (IE.var .i64 1001))), (BE.le (IE.lit 0) (IE.var .i64 1001)), (BE.le (IE.lit 0) (IE.var .u32 1003))]) }
def tmmfilt : List (Nat × Cfg) := [(0, startM 96 mFill2.pat mFill2.hp mFill2.cnt0 (.lit true :: mFill2.pre)), (1, tmfilt1), (2, tmfilt2)]
def selmfilt : Sel := [(96, 1, 0, 1), (96, 2, 0, 2)]
def wmfilt0_0 : VW := (VW.cut 1 [(BE.lit true)] (Sx.Sub.mk [(.i64, (1000, (IE.lit 0)))] [] [(1002, (LE.rep (AL.int .u32 (IE.lit 0) AL.nil) (IE.lit 256)))] [] [] []))
def vwmfilt0 : List VW := [wmfilt0_0]
def pcmfilt1_0 : List BE := [(BE.lit true), (BE.le (IE.lit 0) (IE.var .i64 1000))]
def wmfilt1_0 : VW := (VW.done ((BE.le (IE.lit 256) (IE.var .i64 1000)) :: pcmfilt1_0) (some [(G.l (LE.fn 2 (AL.int .i64 (IE.lit 256) AL.nil)) (LE.var 1002))]))
def wmfilt1_1 : VW := (VW.cut 2 ((BE.not (BE.le (IE.lit 256) (IE.var .i64 1000))) :: pcmfilt1_0) (Sx.Sub.mk [(.i64, (1000, (IE.lit 0))), (.u32, (1003, (IE.var .i64 1000))), (.i64, (1001, (IE.var .i64 1000)))] [] [(1002, (LE.var 1002))] [] [] []))
def vwmfilt1 : List VW := [wmfilt1_0, wmfilt1_1]
def pcmfilt2_0 : List BE := [(BE.lit true), (BE.le (IE.lit 0) (IE.var .i64 1000)), (BE.not (BE.le (IE.lit 256) (IE.var .i64 1001))), (BE.le (IE.lit 0) (IE.var .i64 1001)), (BE.le (IE.lit 0) (IE.var .u32 1003))]
def wmfilt2_0 : VW := (VW.cut 1 ((BE.le (IE.lit 8) (IE.var .i64 1000)) :: pcmfilt2_0) (Sx.Sub.mk [(.i64, (1000, (IE.add (IE.var .i64 1001) (IE.lit 1))))] [] [(1002, (LE.set (LE.var 1002) (IE.var .i64 1001) (AL.int .u32 (IE.var .u32 1003) AL.nil)))] [] [] []))
def wmfilt2_1 : VW := (VW.cut 2 ((BE.not (BE.le (IE.lit 8) (IE.var .i64 1000))) :: pcmfilt2_0) (Sx.Sub.mk [(.i64, (1000, (IE.add (IE.var .i64 1000) (IE.lit 1)))), (.u32, (1003, (IE.bin BinOp.xor .u32 (IE.bin BinOp.shr .u32 (IE.var .u32 1003) (IE.lit 1)) (IE.mul (IE.lit 3988292384) (IE.bin BinOp.and .u32 (IE.var .u32 1003) (IE.lit 1)))))), (.i64, (1001, (IE.var .i64 1001)))] [] [(1002, (LE.var 1002))] [] [] []))
def vwmfilt2 : List VW := [wmfilt2_0, wmfilt2_1]
def vwmfilt : Nat → List VW
 | 0 => vwmfilt0
 | 1 => vwmfilt1
 | 2 => vwmfilt2
 | _ => []
end
def invmfilt : Nat → Lt → Prop
 | 1, l => (l.l 1002) = tabL (l.i .i64 1000).toNat ∧ (l.i .i64 1000) ≤ 256
 | 2, l => (l.l 1002) = tabL (l.i .i64 1001).toNat ∧ (l.i .u32 1003) = (stn (l.i .i64 1000).toNat (l.i .i64 1001).toNat : Int) ∧ (l.i .i64 1000) ≤ 8 ∧ (l.i .i64 1001) < 256
 | _, _ => True
def msmfilt : Nat → Lt → Nat
 | 0, l => 5000
 | 1, l => 10 * (256 - (l.i .i64 1000).toNat) + 20
 | 2, l => 10 * (256 - (l.i .i64 1001).toNat) - 1 - (l.i .i64 1000).toNat + 20
 | _, _ => 0
theorem vcmfilt0_0 : VC TTmfilt invmfilt msmfilt 0 (startM 96 mFill2.pat mFill2.hp mFill2.cnt0 (.lit true :: mFill2.pre)) wmfilt0_0 := by
 intro ρ kn hi hp
 have hF : ρ.z.F = oct.Φ := kn.F
 simp only [h_nil, h_cons, d_le, d_eq, d_not, d_var, d_lit, d_cel, d_leq, d_fn, d_and, d_iff, IE.den, LE.den, AL.den, lenV, true_and, and_true, hF, pi2, pi3, pi4, pi5, pi6, pi7, pi20, pl1, pi21, pi22, pl2] at hp
 refine (show ((List.replicate (256 : Int).toNat [Go.Value.int .u32 (0 : Int)]) = tabL (0 : Int).toNat ∧ (0 : Int) ≤ 256) ∧ ((10 * (256 - (0 : Int).toNat) + 20 : Nat) < 5000) from ?_)
 exact ⟨⟨tab_0, by omega⟩, by omega⟩
def ivmfilt1 (ρ : Rho) : Prop := (ρ.l 1002) = tabL (ρ.i .i64 1000).toNat ∧ (ρ.i .i64 1000) ≤ 256
theorem vcmfilt1_0 : VC TTmfilt invmfilt msmfilt 1 tmfilt1 wmfilt1_0 := by
 intro ρ kn hi hp
 have hi : ivmfilt1 ρ := hi
 unfold ivmfilt1 at hi
 have hF : ρ.z.F = oct.Φ := kn.F
 simp only [h_nil, h_cons, d_le, d_eq, d_not, d_var, d_lit, d_cel, d_leq, d_fn, d_and, d_iff, IE.den, LE.den, AL.den, lenV, true_and, and_true, pcmfilt1_0, hF, pi2, pi3, pi4, pi5, pi6, pi7, pi20, pl1, pi21, pi22, pl2] at hp
 obtain ⟨p1, p2⟩ := hp
 refine all_cons (show (ρ.z.F.l 2 [.int .i64 (256 : Int)]) = (ρ.l 1002) from ?_) (all_nil)
 all_goals try simp only [hF, pi2, pi3, pi4, pi5, pi6, pi7, pi20, pl1, pi21, pi22, pl2]
 all_goals
  obtain ⟨h1, h2⟩ := hi
  rw [h1, show (ρ.i .i64 1000).toNat = 256 by omega]
  rfl
theorem vcmfilt1_1 : VC TTmfilt invmfilt msmfilt 1 tmfilt1 wmfilt1_1 := by
 intro ρ kn hi hp
 have hi : ivmfilt1 ρ := hi
 unfold ivmfilt1 at hi
 have hF : ρ.z.F = oct.Φ := kn.F
 simp only [h_nil, h_cons, d_le, d_eq, d_not, d_var, d_lit, d_cel, d_leq, d_fn, d_and, d_iff, IE.den, LE.den, AL.den, lenV, true_and, and_true, pcmfilt1_0, hF, pi2, pi3, pi4, pi5, pi6, pi7, pi20, pl1, pi21, pi22, pl2] at hp
 obtain ⟨p1, p2⟩ := hp
 refine (show ((ρ.l 1002) = tabL (ρ.i .i64 1000).toNat ∧ (ρ.i .i64 1000) = (stn (0 : Int).toNat (ρ.i .i64 1000).toNat : Int) ∧ (0 : Int) ≤ 8 ∧ (ρ.i .i64 1000) < 256) ∧ ((10 * (256 - (ρ.i .i64 1000).toNat) - 1 - (0 : Int).toNat + 20 : Nat) < 10 * (256 - (ρ.i .i64 1000).toNat) + 20) from ?_)
 obtain ⟨h1, h2⟩ := hi
 refine ⟨⟨h1, ?_, by omega, by omega⟩, by omega⟩
 show ρ.i .i64 1000 = ((ρ.i .i64 1000).toNat : Int)
 omega
def ivmfilt2 (ρ : Rho) : Prop := (ρ.l 1002) = tabL (ρ.i .i64 1001).toNat ∧ (ρ.i .u32 1003) = (stn (ρ.i .i64 1000).toNat (ρ.i .i64 1001).toNat : Int) ∧ (ρ.i .i64 1000) ≤ 8 ∧ (ρ.i .i64 1001) < 256
theorem vcmfilt2_0 : VC TTmfilt invmfilt msmfilt 2 tmfilt2 wmfilt2_0 := by
 intro ρ kn hi hp
 have hi : ivmfilt2 ρ := hi
 unfold ivmfilt2 at hi
 have hF : ρ.z.F = oct.Φ := kn.F
 simp only [h_nil, h_cons, d_le, d_eq, d_not, d_var, d_lit, d_cel, d_leq, d_fn, d_and, d_iff, IE.den, LE.den, AL.den, lenV, true_and, and_true, pcmfilt2_0, hF, pi2, pi3, pi4, pi5, pi6, pi7, pi20, pl1, pi21, pi22, pl2] at hp
 obtain ⟨p1, p2, p3, p4, p5⟩ := hp
 refine (show (((ρ.l 1002).set (ρ.i .i64 1001).toNat [Go.Value.int .u32 (ρ.i .u32 1003)]) = tabL ((ρ.i .i64 1001) + (1 : Int)).toNat ∧ ((ρ.i .i64 1001) + (1 : Int)) ≤ 256) ∧ ((10 * (256 - ((ρ.i .i64 1001) + (1 : Int)).toNat) + 20 : Nat) < 10 * (256 - (ρ.i .i64 1001).toNat) - 1 - (ρ.i .i64 1000).toNat + 20) from ?_)
 obtain ⟨h1, h2, h3, h4⟩ := hi
 rw [show (ρ.i .i64 1000).toNat = 8 by omega] at h2
 rw [h1, h2, tab_set (by omega), show (ρ.i .i64 1001 + 1).toNat = (ρ.i .i64 1001).toNat + 1 by omega]
 exact ⟨⟨rfl, by omega⟩, by omega⟩
theorem vcmfilt2_1 : VC TTmfilt invmfilt msmfilt 2 tmfilt2 wmfilt2_1 := by
 intro ρ kn hi hp
 have hi : ivmfilt2 ρ := hi
 unfold ivmfilt2 at hi
 have hF : ρ.z.F = oct.Φ := kn.F
 simp only [h_nil, h_cons, d_le, d_eq, d_not, d_var, d_lit, d_cel, d_leq, d_fn, d_and, d_iff, IE.den, LE.den, AL.den, lenV, true_and, and_true, pcmfilt2_0, hF, pi2, pi3, pi4, pi5, pi6, pi7, pi20, pl1, pi21, pi22, pl2] at hp
 obtain ⟨p1, p2, p3, p4, p5⟩ := hp
 refine (show ((ρ.l 1002) = tabL (ρ.i .i64 1001).toNat ∧ (binI BinOp.xor .u32 (binI BinOp.shr .u32 (ρ.i .u32 1003) (1 : Int)) ((3988292384 : Int) * (binI BinOp.and .u32 (ρ.i .u32 1003) (1 : Int)))) = (stn ((ρ.i .i64 1000) + (1 : Int)).toNat (ρ.i .i64 1001).toNat : Int) ∧ ((ρ.i .i64 1000) + (1 : Int)) ≤ 8 ∧ (ρ.i .i64 1001) < 256) ∧ ((10 * (256 - (ρ.i .i64 1001).toNat) - 1 - ((ρ.i .i64 1000) + (1 : Int)).toNat + 20 : Nat) < 10 * (256 - (ρ.i .i64 1001).toNat) - 1 - (ρ.i .i64 1000).toNat + 20) from ?_)
 obtain ⟨h1, h2, h3, h4⟩ := hi
 rw [show (ρ.i .i64 1000 + 1).toNat = (ρ.i .i64 1000).toNat + 1 by omega, stn_succ]
 exact ⟨⟨h1, up_mul (stn_lt _ _ (by omega)) h2, by omega, h4⟩, by omega⟩
theorem vcsmfilt0 : ∀ v ∈ vwmfilt 0, VC TTmfilt invmfilt msmfilt 0 (startM 96 mFill2.pat mFill2.hp mFill2.cnt0 (.lit true :: mFill2.pre)) v := all_cons vcmfilt0_0 (all_nil)
theorem okmfilt0 : cfgOk (startM 96 mFill2.pat mFill2.hp mFill2.cnt0 (.lit true :: mFill2.pre)) = true := by kernel_rfl
theorem sgmfilt0 : segM mFill2.roms mFill2 (seg TTmfilt selmfilt 900 tmmfilt (startM 96 mFill2.pat mFill2.hp mFill2.cnt0 (.lit true :: mFill2.pre))) = (true, codesR tmmfilt (views (seg TTmfilt selmfilt 900 tmmfilt (startM 96 mFill2.pat mFill2.hp mFill2.cnt0 (.lit true :: mFill2.pre)))), vwmfilt 0) := by kernel_rfl
theorem vcsmfilt1 : ∀ v ∈ vwmfilt 1, VC TTmfilt invmfilt msmfilt 1 tmfilt1 v := all_cons vcmfilt1_0 (all_cons vcmfilt1_1 (all_nil))
theorem okmfilt1 : cfgOk tmfilt1 = true := by kernel_rfl
theorem sgmfilt1 : segM mFill2.roms mFill2 (seg TTmfilt selmfilt 900 tmmfilt tmfilt1) = (true, codesR tmmfilt (views (seg TTmfilt selmfilt 900 tmmfilt tmfilt1)), vwmfilt 1) := by kernel_rfl
theorem vcsmfilt2 : ∀ v ∈ vwmfilt 2, VC TTmfilt invmfilt msmfilt 2 tmfilt2 v := all_cons vcmfilt2_0 (all_cons vcmfilt2_1 (all_nil))
theorem okmfilt2 : cfgOk tmfilt2 = true := by kernel_rfl
theorem sgmfilt2 : segM mFill2.roms mFill2 (seg TTmfilt selmfilt 900 tmmfilt tmfilt2) = (true, codesR tmmfilt (views (seg TTmfilt selmfilt 900 tmmfilt tmfilt2)), vwmfilt 2) := by kernel_rfl
theorem lnmfilt0 : ∀ ρ, Known TTmfilt (startM 96 mFill2.pat mFill2.hp mFill2.cnt0 (.lit true :: mFill2.pre)) ρ → invmfilt 0 ρ.lt → Holds ρ (leanOf (Cfg.pc (startM 96 mFill2.pat mFill2.hp mFill2.cnt0 (.lit true :: mFill2.pre)))) := by
 intro ρ _ _
 exact (show Holds ρ [] from fun p hp => by cases hp)
theorem lnmfilt1 : ∀ ρ, Known TTmfilt tmfilt1 ρ → invmfilt 1 ρ.lt → Holds ρ (leanOf (Cfg.pc tmfilt1)) := by
 intro ρ _ _
 exact (show Holds ρ [] from fun p hp => by cases hp)
theorem lnmfilt2 : ∀ ρ, Known TTmfilt tmfilt2 ρ → invmfilt 2 ρ.lt → Holds ρ (leanOf (Cfg.pc tmfilt2)) := by
 intro ρ _ _
 exact (show Holds ρ [] from fun p hp => by cases hp)
theorem told_mfilt : Sx.MTold oct.Φ mFill2 := by
 refine mtold_of (cs := []) (ms' := []) (all_nil) (all_nil) (sel := selmfilt) 900 tmmfilt invmfilt msmfilt vwmfilt 0 (pc0 := (.lit true :: mFill2.pre)) (by kernel_rfl) (by kernel_rfl) (by kernel_rfl) (by kernel_rfl) (mpost_nil rfl) ?_ ?_ ?_ rfl (fun ρ _ h => h.cons (p := .lit true) (by simp only [BE.den])) (fun _ _ _ _ _ => trivial) ?_
 ·intro k C h
  have := lk_mem h
  simp only [tmmfilt, List.mem_cons, Prod.mk.injEq, List.not_mem_nil, or_false] at this
  rcases this with ⟨rfl, rfl⟩ | ⟨rfl, rfl⟩ | ⟨rfl, rfl⟩
  ·exact okmfilt0
  ·exact okmfilt1
  ·exact okmfilt2
 ·intro k C h
  have := lk_mem h
  simp only [tmmfilt, List.mem_cons, Prod.mk.injEq, List.not_mem_nil, or_false] at this
  rcases this with ⟨rfl, rfl⟩ | ⟨rfl, rfl⟩ | ⟨rfl, rfl⟩
  ·exact sgmfilt0
  ·exact sgmfilt1
  ·exact sgmfilt2
 ·intro k C h
  have := lk_mem h
  simp only [tmmfilt, List.mem_cons, Prod.mk.injEq, List.not_mem_nil, or_false] at this
  rcases this with ⟨rfl, rfl⟩ | ⟨rfl, rfl⟩ | ⟨rfl, rfl⟩
  ·exact vcsmfilt0
  ·exact vcsmfilt1
  ·exact vcsmfilt2
 ·intro k C h
  have := lk_mem h
  simp only [tmmfilt, List.mem_cons, Prod.mk.injEq, List.not_mem_nil, or_false] at this
  rcases this with ⟨rfl, rfl⟩ | ⟨rfl, rfl⟩ | ⟨rfl, rfl⟩
  ·exact lnmfilt0
  ·exact lnmfilt1
  ·exact lnmfilt2
noncomputable section
abbrev TTsealnil : Tab := TM oct.Φ cSealNil.roms [cNumber] [mFill2]
def tsealnil1 : Cfg := { top := ⟨108, over (opqS 10000 28) [(0, (SV.ptr 3 0)), (1, (SV.int .u32 (IE.var .u32 1000))), (9, (SV.sll 0 1 1 (IE.lit 0) (IE.len (LE.fn 1 (AL.int .u64 (IE.lit 0) AL.nil))) (some (IE.len (LE.fn 1 (AL.int .u64 (IE.lit 0) AL.nil)))))), (10, (SV.int .i64 (IE.len (LE.fn 1 (AL.int .u64 (IE.lit 0) AL.nil))))), (11, (SV.int .i64 (IE.var .i64 1001)))], ogt (loopTodo (bodyOf (T oct.Φ [] []) 108) 0), [], false, none⟩, rest := [⟨107, over (opqS 30000 21) [(2, (SV.func (Go.Fn.func 108) [(SV.ptr 3 0)] [])), (9, (SV.slice 2 0 2 2)), (10, (SV.int .i64 (IE.lit 2))), (11, (SV.int .i64 (IE.lit 0)))], ogt (callTodo (bodyOf (T oct.Φ [] []) 107) 4 [3, 4]), [], false, none⟩, ⟨97, over (opqS 50000 10) [], ogt (callTodo (bodyOf (T oct.Φ [] []) 97) 1 [3, 4, 5]), [], false, none⟩, ⟨79, over (opqS 70000 7) [], ogt (callTodo (bodyOf (T oct.Φ [] []) 79) 3 [1, 2]), [], false, none⟩, ⟨58, over (opqS 90000 21) [(12, (SV.sll 0 1 1 (IE.lit 0) (IE.len (LE.fn 1 (AL.int .u64 (IE.lit 0) AL.nil))) (some (IE.len (LE.fn 1 (AL.int .u64 (IE.lit 0) AL.nil)))))), (13, (SV.const (Go.Value.slice none 0 0)))], ogt (callTodo (bodyOf (T oct.Φ [] []) 58) 4 [5, 6, 7, 8, 9, 10]), [], false, none⟩], heap := [(3, .rowl (LE.fn 2 (AL.int .i64 (IE.lit 256) AL.nil)) (IE.lit 256) [(CK.int .u32)] 97 4 1), (0, .rowl (LE.fn 1 (AL.int .u64 (IE.lit 0) AL.nil)) (IE.len (LE.fn 1 (AL.int .u64 (IE.lit 0) AL.nil))) [(CK.int .u8)] 5 1 1), (2, .cells [(SV.sll 0 1 1 (IE.lit 0) (IE.len (LE.fn 1 (AL.int .u64 (IE.lit 0) AL.nil))) (some (IE.len (LE.fn 1 (AL.int .u64 (IE.lit 0) AL.nil))))), (SV.const (Go.Value.slice none 0 0))] 22)], next := 5, pc := .lit true :: ([] ++ [(BE.le (IE.len (LE.fn 1 (AL.int .u64 (IE.lit 0) AL.nil))) (IE.lit 10)), (BE.le (IE.lit 1) (IE.len (LE.fn 1 (AL.int .u64 (IE.lit 0) AL.nil)))), (BE.le (IE.lit 0) (IE.var .i64 1001))]) }
def tmsealnil : List (Nat × Cfg) := [(0, startF 58 cSealNil.pat (.lit true :: cSealNil.pre)), (1, tsealnil1)]
def selsealnil : Sel := [(108, 1, 1273004, 1)]
def wsealnil0_0 : VW := (VW.cut 1 [(BE.le (IE.lit 1) (IE.len (LE.fn 1 (AL.int .u64 (IE.lit 0) AL.nil)))), (BE.le (IE.len (LE.fn 1 (AL.int .u64 (IE.lit 0) AL.nil))) (IE.lit 10)), (BE.lit true)] (Sx.Sub.mk [(.i64, (1001, (IE.lit 0))), (.u32, (1000, (IE.lit 4294967295)))] [] [] [] [] []))
def vwsealnil0 : List VW := [wsealnil0_0]
def pcsealnil1_0 : List BE := [(BE.lit true), (BE.le (IE.len (LE.fn 1 (AL.int .u64 (IE.lit 0) AL.nil))) (IE.lit 10)), (BE.le (IE.lit 1) (IE.len (LE.fn 1 (AL.int .u64 (IE.lit 0) AL.nil)))), (BE.le (IE.lit 0) (IE.var .i64 1001))]
def wsealnil1_0 : VW := (VW.done ((BE.le (IE.len (LE.fn 1 (AL.int .u64 (IE.lit 0) AL.nil))) (IE.var .i64 1001)) :: pcsealnil1_0) (some [(G.i (IE.len (LE.fn 3 (AL.lst LE.nil AL.nil))) (IE.add (IE.len (LE.fn 1 (AL.int .u64 (IE.lit 0) AL.nil))) (IE.lit 4))), (G.l (LE.fn 3 (AL.lst LE.nil AL.nil)) (LE.cat (LE.cat (LE.fn 1 (AL.int .u64 (IE.lit 0) AL.nil)) (LE.drop (LE.fn 1 (AL.int .u64 (IE.lit 0) AL.nil)) (IE.len (LE.fn 1 (AL.int .u64 (IE.lit 0) AL.nil))))) (LE.cat (LE.one (AL.int .u8 (IE.wrap .u8 (IE.bin BinOp.shr .u32 (IE.bin BinOp.xor .u32 (IE.lit 4294967295) (IE.var .u32 1000)) (IE.lit 24))) AL.nil)) (LE.cat (LE.one (AL.int .u8 (IE.wrap .u8 (IE.bin BinOp.shr .u32 (IE.bin BinOp.xor .u32 (IE.lit 4294967295) (IE.var .u32 1000)) (IE.lit 16))) AL.nil)) (LE.cat (LE.one (AL.int .u8 (IE.wrap .u8 (IE.bin BinOp.shr .u32 (IE.bin BinOp.xor .u32 (IE.lit 4294967295) (IE.var .u32 1000)) (IE.lit 8))) AL.nil)) (LE.one (AL.int .u8 (IE.wrap .u8 (IE.bin BinOp.xor .u32 (IE.lit 4294967295) (IE.var .u32 1000))) AL.nil))))))), (G.i (IE.len (LE.fn 3 (AL.lst LE.nil AL.nil))) (IE.add (IE.len (LE.fn 1 (AL.int .u64 (IE.lit 0) AL.nil))) (IE.lit 4)))]))
def wsealnil1_1 : VW := (VW.cut 1 ((BE.not (BE.le (IE.len (LE.fn 1 (AL.int .u64 (IE.lit 0) AL.nil))) (IE.var .i64 1001))) :: pcsealnil1_0) (Sx.Sub.mk [(.i64, (1001, (IE.add (IE.var .i64 1001) (IE.lit 1)))), (.u32, (1000, (IE.bin BinOp.xor .u32 (IE.bin BinOp.shr .u32 (IE.var .u32 1000) (IE.lit 8)) (IE.cel .u32 (LE.fn 2 (AL.int .i64 (IE.lit 256) AL.nil)) (IE.bin BinOp.xor .u8 (IE.wrap .u8 (IE.var .u32 1000)) (IE.cel .u8 (LE.fn 1 (AL.int .u64 (IE.lit 0) AL.nil)) (IE.var .i64 1001) 0)) 0))))] [] [] [] [] []))
def vwsealnil1 : List VW := [wsealnil1_0, wsealnil1_1]
def vwsealnil : Nat → List VW
 | 0 => vwsealnil0
 | 1 => vwsealnil1
 | _ => []
end
def invsealnil : Nat → Lt → Prop
 | 1, l => (l.i .u32 1000) = (crcT (numL (clampK .u64 0)) (l.i .i64 1001).toNat : Int) ∧ (l.i .i64 1001) ≤ ((numL (clampK .u64 0)).length : Int)
 | _, _ => True
def mssealnil : Nat → Lt → Nat
 | 0, l => 20
 | 1, l => (12 - (l.i .i64 1001)).toNat
 | _, _ => 0
theorem vcsealnil0_0 : VC TTsealnil invsealnil mssealnil 0 (startF 58 cSealNil.pat (.lit true :: cSealNil.pre)) wsealnil0_0 := by
 intro ρ kn hi hp
 have hF : ρ.z.F = oct.Φ := kn.F
 simp only [h_nil, h_cons, d_le, d_eq, d_not, d_var, d_lit, d_cel, d_leq, d_fn, d_and, d_iff, IE.den, LE.den, AL.den, lenV, true_and, and_true, hF, pi2, pi3, pi4, pi5, pi6, pi7, pi20, pl1, pi21, pi22, pl2] at hp
 obtain ⟨p1, p2⟩ := hp
 refine (show ((4294967295 : Int) = (crcT (numL (clampK .u64 0)) (0 : Int).toNat : Int) ∧ (0 : Int) ≤ ((numL (clampK .u64 0)).length : Int)) ∧ (((12 - (0 : Int)).toNat : Nat) < 20) from ?_)
 exact ⟨⟨rfl, by omega⟩, by decide⟩
def ivsealnil1 (ρ : Rho) : Prop := (ρ.i .u32 1000) = (crcT (numL (clampK .u64 0)) (ρ.i .i64 1001).toNat : Int) ∧ (ρ.i .i64 1001) ≤ ((numL (clampK .u64 0)).length : Int)
theorem vcsealnil1_0 : VC TTsealnil invsealnil mssealnil 1 tsealnil1 wsealnil1_0 := by
 intro ρ kn hi hp
 have hi : ivsealnil1 ρ := hi
 unfold ivsealnil1 at hi
 have hF : ρ.z.F = oct.Φ := kn.F
 simp only [h_nil, h_cons, d_le, d_eq, d_not, d_var, d_lit, d_cel, d_leq, d_fn, d_and, d_iff, IE.den, LE.den, AL.den, lenV, true_and, and_true, pcsealnil1_0, hF, pi2, pi3, pi4, pi5, pi6, pi7, pi20, pl1, pi21, pi22, pl2] at hp
 obtain ⟨p1, p2, p3, p4⟩ := hp
 refine all_cons (show (((ρ.z.F.l 3 [.lst ([] : LV)]).length : Nat) : Int) = ((((ρ.z.F.l 1 [.int .u64 (0 : Int)]).length : Nat) : Int) + (4 : Int)) from ?_) (all_cons (show (ρ.z.F.l 3 [.lst ([] : LV)]) = (((ρ.z.F.l 1 [.int .u64 (0 : Int)]) ++ ((ρ.z.F.l 1 [.int .u64 (0 : Int)]).drop (((ρ.z.F.l 1 [.int .u64 (0 : Int)]).length : Nat) : Int).toNat)) ++ (([[Go.Value.int .u8 (IntKind.wrap .u8 (binI BinOp.shr .u32 (binI BinOp.xor .u32 (4294967295 : Int) (ρ.i .u32 1000)) (24 : Int)))]] : LV) ++ (([[Go.Value.int .u8 (IntKind.wrap .u8 (binI BinOp.shr .u32 (binI BinOp.xor .u32 (4294967295 : Int) (ρ.i .u32 1000)) (16 : Int)))]] : LV) ++ (([[Go.Value.int .u8 (IntKind.wrap .u8 (binI BinOp.shr .u32 (binI BinOp.xor .u32 (4294967295 : Int) (ρ.i .u32 1000)) (8 : Int)))]] : LV) ++ ([[Go.Value.int .u8 (IntKind.wrap .u8 (binI BinOp.xor .u32 (4294967295 : Int) (ρ.i .u32 1000)))]] : LV))))) from ?_) (all_cons (show (((ρ.z.F.l 3 [.lst ([] : LV)]).length : Nat) : Int) = ((((ρ.z.F.l 1 [.int .u64 (0 : Int)]).length : Nat) : Int) + (4 : Int)) from ?_) (all_nil)))
 all_goals try simp only [hF, pi2, pi3, pi4, pi5, pi6, pi7, pi20, pl1, pi21, pi22, pl2]
 all_goals
  obtain ⟨h1, h2⟩ := hi
  have e : (ρ.i .i64 1001).toNat = (numL (clampK .u64 0)).length := by omega
  simp only [pl3t typed_nil]
  first
   | exact seal_nil_len
   | (rw [four_is (crc_lt _ _) h1, e, seal_nil_is, List.drop_of_length_le (by simp)])
theorem vcsealnil1_1 : VC TTsealnil invsealnil mssealnil 1 tsealnil1 wsealnil1_1 := by
 intro ρ kn hi hp
 have hi : ivsealnil1 ρ := hi
 unfold ivsealnil1 at hi
 have hF : ρ.z.F = oct.Φ := kn.F
 simp only [h_nil, h_cons, d_le, d_eq, d_not, d_var, d_lit, d_cel, d_leq, d_fn, d_and, d_iff, IE.den, LE.den, AL.den, lenV, true_and, and_true, pcsealnil1_0, hF, pi2, pi3, pi4, pi5, pi6, pi7, pi20, pl1, pi21, pi22, pl2] at hp
 obtain ⟨p1, p2, p3, p4⟩ := hp
 refine (show ((binI BinOp.xor .u32 (binI BinOp.shr .u32 (ρ.i .u32 1000) (8 : Int)) (clampK .u32 (intV (celV (ρ.z.F.l 2 [.int .i64 (256 : Int)]) (binI BinOp.xor .u8 (IntKind.wrap .u8 (ρ.i .u32 1000)) (clampK .u8 (intV (celV (ρ.z.F.l 1 [.int .u64 (0 : Int)]) (ρ.i .i64 1001) 0)))) 0)))) = (crcT (numL (clampK .u64 0)) ((ρ.i .i64 1001) + (1 : Int)).toNat : Int) ∧ ((ρ.i .i64 1001) + (1 : Int)) ≤ ((numL (clampK .u64 0)).length : Int)) ∧ (((12 - ((ρ.i .i64 1001) + (1 : Int))).toNat : Nat) < (12 - (ρ.i .i64 1001)).toNat) from ?_)
 simp only [hF, pi2, pi3, pi4, pi5, pi6, pi7, pi20, pl1, pi21, pi22, pl2]
 obtain ⟨h1, h2⟩ := hi
 rw [show (ρ.i .i64 1001 + 1).toNat = (ρ.i .i64 1001).toNat + 1 by omega]
 refine ⟨⟨crc_go rfl h1 (b_z (by omega)), by omega⟩, by omega⟩
theorem vcssealnil0 : ∀ v ∈ vwsealnil 0, VC TTsealnil invsealnil mssealnil 0 (startF 58 cSealNil.pat (.lit true :: cSealNil.pre)) v := all_cons vcsealnil0_0 (all_nil)
theorem oksealnil0 : cfgOk (startF 58 cSealNil.pat (.lit true :: cSealNil.pre)) = true := by kernel_rfl
theorem sgsealnil0 : segL cSealNil.roms cSealNil (seg TTsealnil selsealnil 2500 tmsealnil (startF 58 cSealNil.pat (.lit true :: cSealNil.pre))) = (true, codesR tmsealnil (views (seg TTsealnil selsealnil 2500 tmsealnil (startF 58 cSealNil.pat (.lit true :: cSealNil.pre)))), vwsealnil 0) := by kernel_rfl
theorem vcssealnil1 : ∀ v ∈ vwsealnil 1, VC TTsealnil invsealnil mssealnil 1 tsealnil1 v := all_cons vcsealnil1_0 (all_cons vcsealnil1_1 (all_nil))
theorem oksealnil1 : cfgOk tsealnil1 = true := by kernel_rfl
theorem sgsealnil1 : segL cSealNil.roms cSealNil (seg TTsealnil selsealnil 2500 tmsealnil tsealnil1) = (true, codesR tmsealnil (views (seg TTsealnil selsealnil 2500 tmsealnil tsealnil1)), vwsealnil 1) := by kernel_rfl
theorem lnsealnil0 : ∀ ρ, Known TTsealnil (startF 58 cSealNil.pat (.lit true :: cSealNil.pre)) ρ → invsealnil 0 ρ.lt → Holds ρ (leanOf (Cfg.pc (startF 58 cSealNil.pat (.lit true :: cSealNil.pre)))) := by
 intro ρ _ _
 exact (show Holds ρ [] from fun p hp => by cases hp)
theorem lnsealnil1 : ∀ ρ, Known TTsealnil tsealnil1 ρ → invsealnil 1 ρ.lt → Holds ρ (leanOf (Cfg.pc tsealnil1)) := by
 intro ρ _ _
 exact (show Holds ρ [] from fun p hp => by cases hp)
theorem told_sealnil : Sx.Told oct.Φ cSealNil := by
 refine told_ofM (cs := [cNumber]) (ms' := [mFill2]) (all_cons told_number (all_nil)) (all_cons told_mfilt (all_nil)) (sel := selsealnil) 2500 tmsealnil invsealnil mssealnil vwsealnil 0 (pc0 := (.lit true :: cSealNil.pre)) (by kernel_rfl) (by kernel_rfl) (by kernel_rfl) post_sealnil ?_ ?_ ?_ rfl (fun ρ _ h => h.cons (p := .lit true) (by simp only [BE.den])) (fun _ _ _ _ => trivial) ?_
 ·intro k C h
  have := lk_mem h
  simp only [tmsealnil, List.mem_cons, Prod.mk.injEq, List.not_mem_nil, or_false] at this
  rcases this with ⟨rfl, rfl⟩ | ⟨rfl, rfl⟩
  ·exact oksealnil0
  ·exact oksealnil1
 ·intro k C h
  have := lk_mem h
  simp only [tmsealnil, List.mem_cons, Prod.mk.injEq, List.not_mem_nil, or_false] at this
  rcases this with ⟨rfl, rfl⟩ | ⟨rfl, rfl⟩
  ·exact sgsealnil0
  ·exact sgsealnil1
 ·intro k C h
  have := lk_mem h
  simp only [tmsealnil, List.mem_cons, Prod.mk.injEq, List.not_mem_nil, or_false] at this
  rcases this with ⟨rfl, rfl⟩ | ⟨rfl, rfl⟩
  ·exact vcssealnil0
  ·exact vcssealnil1
 ·intro k C h
  have := lk_mem h
  simp only [tmsealnil, List.mem_cons, Prod.mk.injEq, List.not_mem_nil, or_false] at this
  rcases this with ⟨rfl, rfl⟩ | ⟨rfl, rfl⟩
  ·exact lnsealnil0
  ·exact lnsealnil1
end Go.Proofs.YtllojpnpfhaniaaGreat.oct
