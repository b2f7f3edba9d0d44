/- Layer keep: a sum over a row in memory. No condition. -/
import Derived.Test.YtllojpnpfhaniaaGreatKl0
set_option linter.unusedVariables false
set_option linter.unusedSimpArgs false
set_option linter.deprecated false
namespace Go.Proofs.YtllojpnpfhaniaaGreat.oct
open Go Go.Proofs.YtllojpnpfhaniaaGreat.Sx
noncomputable section
abbrev TTmsum : Tab := TM oct.Φ mSum.roms [] []
def tmsum1 : Cfg := { top := ⟨108, over (opqS 10000 28) [(0, (SV.ptr 1000000 1)), (1, (SV.int .u32 (IE.var .u32 1000))), (9, (SV.sll 1000002 1000003 1 (IE.lit 0) (IE.var .i64 2) (some (IE.var .i64 2)))), (10, (SV.int .i64 (IE.var .i64 2))), (11, (SV.int .i64 (IE.var .i64 1001)))], ogt (loopTodo (bodyOf (T oct.Φ [] []) 108) 0), [], false, none⟩, rest := [⟨107, over (opqS 30000 21) [(2, (SV.func (Go.Fn.func 108) [(SV.ptr 1000000 1)] [])), (9, (SV.slice 1000001 0 1 1)), (10, (SV.int .i64 (IE.lit 1))), (11, (SV.int .i64 (IE.lit 0)))], ogt (callTodo (bodyOf (T oct.Φ [] []) 107) 4 [3, 4]), [], false, none⟩, ⟨97, over (opqS 50000 10) [], ogt (callTodo (bodyOf (T oct.Φ [] []) 97) 1 [3, 4, 5]), [], false, none⟩], heap := [(1000002, .rowl (LE.var 7) (IE.var .i64 3) [(CK.int .u8)] 5 1000003 1), (1000001, .cells [(SV.sll 1000002 1000003 1 (IE.lit 0) (IE.var .i64 2) (some (IE.var .i64 2)))] 22), (1000000, .mix [(SV.opq 1)] (LE.fn 2 (AL.int .i64 (IE.lit 256) AL.nil)) 256 .u32 [(SV.int .i64 (IE.var .i64 1))] 99)], next := 1001000, pc := .lit true :: ([] ++ [(BE.le (IE.var .i64 2) (IE.len (LE.var 7))), (BE.le (IE.var .i64 2) (IE.var .i64 3)), (BE.le (IE.lit 0) (IE.var .i64 2)), (BE.le (IE.lit 0) (IE.var .i64 1001))]) }
def tmmsum : List (Nat × Cfg) := [(0, startM 97 mSum.pat mSum.hp mSum.cnt0 (.lit true :: mSum.pre)), (1, tmsum1)]
def selmsum : Sel := [(108, 1, 2, 1)]
def wmsum0_0 : VW := (VW.cut 1 [(BE.lit true), (BE.le (IE.lit 0) (IE.var .i64 2)), (BE.le (IE.var .i64 2) (IE.var .i64 3)), (BE.le (IE.var .i64 2) (IE.len (LE.var 7)))] (Sx.Sub.mk [(.i64, (1001, (IE.lit 0))), (.u32, (1000, (IE.lit 4294967295)))] [] [] [] [] []))
def vwmsum0 : List VW := [wmsum0_0]
abbrev pcmsum1_0 : List BE := [(BE.lit true), (BE.le (IE.var .i64 2) (IE.len (LE.var 7))), (BE.le (IE.var .i64 2) (IE.var .i64 3)), (BE.le (IE.lit 0) (IE.var .i64 2)), (BE.le (IE.lit 0) (IE.var .i64 1001))]
def wmsum1_0 : VW := (VW.done ((BE.le (IE.var .i64 2) (IE.var .i64 1001)) :: pcmsum1_0) (some [(G.i (IE.fn .u32 20 (AL.lst (LE.take (LE.var 7) (IE.var .i64 2)) AL.nil)) (IE.bin BinOp.xor .u32 (IE.lit 4294967295) (IE.var .u32 1000)))]))
def wmsum1_1 : VW := (VW.cut 1 ((BE.not (BE.le (IE.var .i64 2) (IE.var .i64 1001))) :: pcmsum1_0) (Sx.Sub.mk [(.i64, (1001, (IE.add (IE.var .i64 1001) (IE.lit 1)))), (.u32, (1000, (IE.bin BinOp.xor .u32 (IE.bin BinOp.shr .u32 (IE.var .u32 1000) (IE.lit 8)) (IE.cel .u32 (LE.fn 2 (AL.int .i64 (IE.lit 256) AL.nil)) (IE.bin BinOp.xor .u8 (IE.wrap .u8 (IE.var .u32 1000)) (IE.cel .u8 (LE.var 7) (IE.var .i64 1001) 0)) 0))))] [] [] [] [] []))
def vwmsum1 : List VW := [wmsum1_0, wmsum1_1]
def vwmsum : Nat → List VW
 | 0 => vwmsum0
 | 1 => vwmsum1
 | _ => []
end
def invmsum : Nat → Lt → Prop
 | 1, l => (l.i .u32 1000) = (crcT (l.l 7) (l.i .i64 1001).toNat : Int) ∧ (l.i .i64 1001) ≤ (l.i .i64 2)
 | _, _ => True
def msmsum : Nat → Lt → Nat
 | 0, l => (l.i .i64 2).toNat + 1
 | 1, l => (l.i .i64 2).toNat - (l.i .i64 1001).toNat
 | _, _ => 0
theorem vcmsum0_0 : VC TTmsum invmsum msmsum 0 (startM 97 mSum.pat mSum.hp mSum.cnt0 (.lit true :: mSum.pre)) wmsum0_0 := by
 intro ρ kn hi hp
 have hF : ρ.z.F = oct.Φ := kn.F
 simp only [h_nil, h_cons, d_le, d_eq, d_not, d_var, d_lit, d_cel, d_leq, d_fn, d_and, d_iff, IE.den, LE.den, AL.den, lenV, true_and, and_true, hF, pi2, pi3, pi4, pi5, pi6, pi7, pi20, pl1, pi21, pi22, pl2, pl7] at hp
 obtain ⟨p1, p2, p3⟩ := hp
 refine (show ((4294967295 : Int) = (crcT (ρ.l 7) (0 : Int).toNat : Int) ∧ (0 : Int) ≤ (ρ.i .i64 2)) ∧ (((ρ.i .i64 2).toNat - (0 : Int).toNat : Nat) < (ρ.i .i64 2).toNat + 1) from ?_)
 exact ⟨⟨rfl, by omega⟩, by omega⟩
def ivmsum1 (ρ : Rho) : Prop := (ρ.i .u32 1000) = (crcT (ρ.l 7) (ρ.i .i64 1001).toNat : Int) ∧ (ρ.i .i64 1001) ≤ (ρ.i .i64 2)
theorem vcmsum1_0 : VC TTmsum invmsum msmsum 1 tmsum1 wmsum1_0 := by
 intro ρ kn hi hp
 have hi : ivmsum1 ρ := hi
 unfold ivmsum1 at hi
 have hF : ρ.z.F = oct.Φ := kn.F
 simp only [h_nil, h_cons, d_le, d_eq, d_not, d_var, d_lit, d_cel, d_leq, d_fn, d_and, d_iff, IE.den, LE.den, AL.den, lenV, true_and, and_true, hF, pi2, pi3, pi4, pi5, pi6, pi7, pi20, pl1, pi21, pi22, pl2, pl7] at hp
 obtain ⟨p1, p2, p3, p4, p5⟩ := hp
 refine all_cons (show (clampK .u32 (ρ.z.F.i 20 [.lst ((ρ.l 7).take (ρ.i .i64 2).toNat)])) = (binI BinOp.xor .u32 (4294967295 : Int) (ρ.i .u32 1000)) from ?_) (all_nil)
 all_goals try simp only [hF, pi2, pi3, pi4, pi5, pi6, pi7, pi20, pl1, pi21, pi22, pl2, pl7]
 all_goals
  obtain ⟨h1, h2⟩ := hi
  have e : ρ.i .i64 1001 = ρ.i .i64 2 := by omega
  rw [sum_in, h1, not_32 (crc_lt _ _), e]
  unfold sumI
  rw [List.length_take, show min (ρ.i .i64 2).toNat (ρ.l 7).length = (ρ.i .i64 2).toNat by omega, crcT_take (Nat.le_refl _)]
theorem vcmsum1_1 : VC TTmsum invmsum msmsum 1 tmsum1 wmsum1_1 := by
 intro ρ kn hi hp
 have hi : ivmsum1 ρ := hi
 unfold ivmsum1 at hi
 have hF : ρ.z.F = oct.Φ := kn.F
 simp only [h_nil, h_cons, d_le, d_eq, d_not, d_var, d_lit, d_cel, d_leq, d_fn, d_and, d_iff, IE.den, LE.den, AL.den, lenV, true_and, and_true, hF, pi2, pi3, pi4, pi5, pi6, pi7, pi20, pl1, pi21, pi22, pl2, pl7] at hp
 obtain ⟨p1, p2, p3, p4, p5⟩ := hp
 refine (show ((binI BinOp.xor .u32 (binI BinOp.shr .u32 (ρ.i .u32 1000) (8 : Int)) (clampK .u32 (intV (celV (ρ.z.F.l 2 [.int .i64 (256 : Int)]) (binI BinOp.xor .u8 (IntKind.wrap .u8 (ρ.i .u32 1000)) (clampK .u8 (intV (celV (ρ.l 7) (ρ.i .i64 1001) 0)))) 0)))) = (crcT (ρ.l 7) ((ρ.i .i64 1001) + (1 : Int)).toNat : Int) ∧ ((ρ.i .i64 1001) + (1 : Int)) ≤ (ρ.i .i64 2)) ∧ (((ρ.i .i64 2).toNat - ((ρ.i .i64 1001) + (1 : Int)).toNat : Nat) < (ρ.i .i64 2).toNat - (ρ.i .i64 1001).toNat) from ?_)
 simp only [hF, pi2, pi3, pi4, pi5, pi6, pi7, pi20, pl1, pi21, pi22, pl2, pl7]
 obtain ⟨h1, h2⟩ := hi
 rw [show (ρ.i .i64 1001 + 1).toNat = (ρ.i .i64 1001).toNat + 1 by omega]
 refine ⟨⟨crc_go rfl h1 (b_z (by omega)), by omega⟩, by omega⟩
theorem vcsmsum0 : ∀ v ∈ vwmsum 0, VC TTmsum invmsum msmsum 0 (startM 97 mSum.pat mSum.hp mSum.cnt0 (.lit true :: mSum.pre)) v := all_cons vcmsum0_0 (all_nil)
theorem okmsum0 : cfgOk (startM 97 mSum.pat mSum.hp mSum.cnt0 (.lit true :: mSum.pre)) = true := by kernel_rfl
theorem sgmsum0 : segM mSum.roms mSum (seg TTmsum selmsum 900 tmmsum (startM 97 mSum.pat mSum.hp mSum.cnt0 (.lit true :: mSum.pre))) = (true, codesR tmmsum (views (seg TTmsum selmsum 900 tmmsum (startM 97 mSum.pat mSum.hp mSum.cnt0 (.lit true :: mSum.pre)))), vwmsum 0) := by kernel_rfl
theorem vcsmsum1 : ∀ v ∈ vwmsum 1, VC TTmsum invmsum msmsum 1 tmsum1 v := all_cons vcmsum1_0 (all_cons vcmsum1_1 (all_nil))
theorem okmsum1 : cfgOk tmsum1 = true := by kernel_rfl
theorem sgmsum1 : segM mSum.roms mSum (seg TTmsum selmsum 900 tmmsum tmsum1) = (true, codesR tmmsum (views (seg TTmsum selmsum 900 tmmsum tmsum1)), vwmsum 1) := by kernel_rfl
theorem lnmsum0 : ∀ ρ, Known TTmsum (startM 97 mSum.pat mSum.hp mSum.cnt0 (.lit true :: mSum.pre)) ρ → invmsum 0 ρ.lt → Holds ρ (leanOf (Cfg.pc (startM 97 mSum.pat mSum.hp mSum.cnt0 (.lit true :: mSum.pre)))) := by
 intro ρ _ _
 exact (show Holds ρ [] from fun p hp => by cases hp)
theorem lnmsum1 : ∀ ρ, Known TTmsum tmsum1 ρ → invmsum 1 ρ.lt → Holds ρ (leanOf (Cfg.pc tmsum1)) := by
 intro ρ _ _
 exact (show Holds ρ [] from fun p hp => by cases hp)
theorem told_msum : Sx.MTold oct.Φ mSum := by
 refine mtold_of (cs := []) (ms' := []) (all_nil) (all_nil) (sel := selmsum) 900 tmmsum invmsum msmsum vwmsum 0 (pc0 := (.lit true :: mSum.pre)) (by kernel_rfl) (by kernel_rfl) (by kernel_rfl) (by kernel_rfl) (mpost_nil rfl) ?_ ?_ ?_ rfl (fun ρ _ h => h.cons (p := .lit true) (by simp only [BE.den])) (fun _ _ _ _ _ => trivial) ?_
 ·intro k C h
  have := lk_mem h
  simp only [tmmsum, List.mem_cons, Prod.mk.injEq, List.not_mem_nil, or_false] at this
  rcases this with ⟨rfl, rfl⟩ | ⟨rfl, rfl⟩
  ·exact okmsum0
  ·exact okmsum1
 ·intro k C h
  have := lk_mem h
  simp only [tmmsum, List.mem_cons, Prod.mk.injEq, List.not_mem_nil, or_false] at this
  rcases this with ⟨rfl, rfl⟩ | ⟨rfl, rfl⟩
  ·exact sgmsum0
  ·exact sgmsum1
 ·intro k C h
  have := lk_mem h
  simp only [tmmsum, List.mem_cons, Prod.mk.injEq, List.not_mem_nil, or_false] at this
  rcases this with ⟨rfl, rfl⟩ | ⟨rfl, rfl⟩
  ·exact vcsmsum0
  ·exact vcsmsum1
 ·intro k C h
  have := lk_mem h
  simp only [tmmsum, List.mem_cons, Prod.mk.injEq, List.not_mem_nil, or_false] at this
  rcases this with ⟨rfl, rfl⟩ | ⟨rfl, rfl⟩
  ·exact lnmsum0
  ·exact lnmsum1
theorem told_sealx : Sx.Told oct.Φ cSealX := told_auto (cs := []) (all_nil) 4000 (by kernel_rfl) (by kernel_rfl) (by kernel_rfl) (post_nil rfl) (by kernel_rfl) (by kernel_rfl)
end Go.Proofs.YtllojpnpfhaniaaGreat.oct
