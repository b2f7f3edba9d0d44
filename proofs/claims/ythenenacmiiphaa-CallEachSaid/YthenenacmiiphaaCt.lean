/- Layer call: numbers that are read on. No condition. -/
import Derived.Test.YthenenacmiiphaaCn
set_option linter.unusedVariables false
set_option linter.unusedSimpArgs false
set_option linter.deprecated false
namespace Go.Proofs.Ythenenacmiiphaa.oct
open Go Go.Proofs.Ythenenacmiiphaa.Sx
noncomputable section
abbrev TTmnum : Tab := TM oct.Φ mNum.roms [cRead] []
def tmmnum : List (Nat × Cfg) := [(0, startM 87 mNum.pat mNum.hp mNum.cnt0 (.lit true :: mNum.pre))]
def selmnum : Sel := []
abbrev tmnum0 : AL := AL.lst (LE.drop (LE.rom 0) (IE.var .i64 1)) AL.nil
abbrev tmnum1 : BE := BE.le (IE.fn .u64 3 tmnum0) (IE.lit 9223372036854775807)
abbrev pcmnum0_0 : List BE := [(BE.le (IE.lit 0) (IE.fn .i64 4 tmnum0)), (BE.le (IE.fn .i64 4 tmnum0) (IE.sub (IE.len (LE.rom 0)) (IE.var .i64 1))), (BE.lit true), (BE.le (IE.lit 0) (IE.var .i64 1)), (BE.le (IE.var .i64 1) (IE.len (LE.rom 0))), (BE.eq (IE.fn .i64 5 tmnum0) (IE.lit 0))]
def wmnum0_0 : VW := (VW.done (tmnum1 :: pcmnum0_0) (some [(G.i (IE.ite tmnum1 (IE.fn .u64 3 tmnum0) (IE.lit (-1))) (IE.fn .u64 3 tmnum0))]))
def wmnum0_1 : VW := (VW.done ((BE.not tmnum1) :: pcmnum0_0) (some [(G.i (IE.ite tmnum1 (IE.fn .u64 3 tmnum0) (IE.lit (-1))) (IE.lit (-1)))]))
def vwmnum0 : List VW := [wmnum0_0, wmnum0_1]
def vwmnum : Nat → List VW
 | 0 => vwmnum0
 | _ => []
end
def invmnum : Nat → Lt → Prop
 | _, _ => True
def msmnum : Nat → Lt → Nat
 | _, _ => 0
theorem vcmnum0_0 : VC TTmnum invmnum msmnum 0 (startM 87 mNum.pat mNum.hp mNum.cnt0 (.lit true :: mNum.pre)) wmnum0_0 := by
 intro ρ kn hi hp
 have hF : ρ.z.F = oct.Φ := kn.F
 simp only [h_nil, h_cons, d_le, d_eq, d_not, d_var, d_lit, d_cel, d_leq, d_fn, d_and, d_iff, IE.den, LE.den, AL.den, lenV, true_and, and_true, hF, pi2, pi3, pi4, pi5, pi6, pi7] at hp
 obtain ⟨p1, p2, p3, p4, p5, p6⟩ := hp
 refine all_cons (show (if (decide ((clampK .u64 (ρ.z.F.i 3 [.lst ((ρ.z.rl 0).drop (ρ.i .i64 1).toNat)])) ≤ (9223372036854775807 : Int))) then (clampK .u64 (ρ.z.F.i 3 [.lst ((ρ.z.rl 0).drop (ρ.i .i64 1).toNat)])) else (-1 : Int)) = (clampK .u64 (ρ.z.F.i 3 [.lst ((ρ.z.rl 0).drop (ρ.i .i64 1).toNat)])) from ?_) (all_nil)
 all_goals try simp only [hF, pi2, pi3, pi4, pi5, pi6, pi7]
 first
  | exact if_pos (decide_eq_true p1)
  | exact if_neg (by rw [decide_eq_true_eq]; exact p1)
theorem vcmnum0_1 : VC TTmnum invmnum msmnum 0 (startM 87 mNum.pat mNum.hp mNum.cnt0 (.lit true :: mNum.pre)) wmnum0_1 := by
 intro ρ kn hi hp
 have hF : ρ.z.F = oct.Φ := kn.F
 simp only [h_nil, h_cons, d_le, d_eq, d_not, d_var, d_lit, d_cel, d_leq, d_fn, d_and, d_iff, IE.den, LE.den, AL.den, lenV, true_and, and_true, hF, pi2, pi3, pi4, pi5, pi6, pi7] at hp
 obtain ⟨p1, p2, p3, p4, p5, p6⟩ := hp
 refine all_cons (show (if (decide ((clampK .u64 (ρ.z.F.i 3 [.lst ((ρ.z.rl 0).drop (ρ.i .i64 1).toNat)])) ≤ (9223372036854775807 : Int))) then (clampK .u64 (ρ.z.F.i 3 [.lst ((ρ.z.rl 0).drop (ρ.i .i64 1).toNat)])) else (-1 : Int)) = (-1 : Int) from ?_) (all_nil)
 all_goals try simp only [hF, pi2, pi3, pi4, pi5, pi6, pi7]
 first
  | exact if_pos (decide_eq_true p1)
  | exact if_neg (by rw [decide_eq_true_eq]; exact p1)
theorem vcsmnum0 : ∀ v ∈ vwmnum 0, VC TTmnum invmnum msmnum 0 (startM 87 mNum.pat mNum.hp mNum.cnt0 (.lit true :: mNum.pre)) v := all_cons vcmnum0_0 (all_cons vcmnum0_1 (all_nil))
theorem okmnum0 : cfgOk (startM 87 mNum.pat mNum.hp mNum.cnt0 (.lit true :: mNum.pre)) = true := by kernel_rfl
theorem sgmnum0 : segM mNum.roms mNum (seg TTmnum selmnum 900 tmmnum (startM 87 mNum.pat mNum.hp mNum.cnt0 (.lit true :: mNum.pre))) = (true, codesR tmmnum (views (seg TTmnum selmnum 900 tmmnum (startM 87 mNum.pat mNum.hp mNum.cnt0 (.lit true :: mNum.pre)))), vwmnum 0) := by kernel_rfl
theorem lnmnum0 : ∀ ρ, Known TTmnum (startM 87 mNum.pat mNum.hp mNum.cnt0 (.lit true :: mNum.pre)) ρ → invmnum 0 ρ.lt → Holds ρ (leanOf (Cfg.pc (startM 87 mNum.pat mNum.hp mNum.cnt0 (.lit true :: mNum.pre)))) := by
 intro ρ _ _
 exact (show Holds ρ [] from fun p hp => by cases hp)
theorem told_mnum : Sx.MTold oct.Φ mNum := by
 refine mtold_of (cs := [cRead]) (ms' := []) (all_cons told_read (all_nil)) (all_nil) (sel := selmnum) 900 tmmnum invmnum msmnum vwmnum 0 (pc0 := (.lit true :: mNum.pre)) (by kernel_rfl) (by kernel_rfl) (by kernel_rfl) (by kernel_rfl) post_mnum ?_ ?_ ?_ rfl (fun ρ _ h => h.cons (p := .lit true) (by simp only [BE.den])) (fun _ _ _ _ _ => trivial) ?_
 ·intro k C h
  have := lk_mem h
  simp only [tmmnum, List.mem_cons, Prod.mk.injEq, List.not_mem_nil, or_false] at this
  rcases this with ⟨rfl, rfl⟩
  ·exact okmnum0
 ·intro k C h
  have := lk_mem h
  simp only [tmmnum, List.mem_cons, Prod.mk.injEq, List.not_mem_nil, or_false] at this
  rcases this with ⟨rfl, rfl⟩
  ·exact sgmnum0
 ·intro k C h
  have := lk_mem h
  simp only [tmmnum, List.mem_cons, Prod.mk.injEq, List.not_mem_nil, or_false] at this
  rcases this with ⟨rfl, rfl⟩
  ·exact vcsmnum0
 ·intro k C h
  have := lk_mem h
  simp only [tmmnum, List.mem_cons, Prod.mk.injEq, List.not_mem_nil, or_false] at this
  rcases this with ⟨rfl, rfl⟩
  ·exact lnmnum0
noncomputable section
abbrev TTmnumn : Tab := TM oct.Φ mNumN.roms [cRead] []
def tmmnumn : List (Nat × Cfg) := [(0, startM 87 mNumN.pat mNumN.hp mNumN.cnt0 (.lit true :: mNumN.pre))]
def selmnumn : Sel := []
def wmnumn0_0 : VW := (VW.done [(BE.le (IE.lit 0) (IE.fn .i64 4 (AL.lst (LE.drop (LE.rom 0) (IE.var .i64 1)) AL.nil))), (BE.le (IE.fn .i64 4 (AL.lst (LE.drop (LE.rom 0) (IE.var .i64 1)) AL.nil)) (IE.sub (IE.len (LE.rom 0)) (IE.var .i64 1))), (BE.lit true), (BE.le (IE.lit 0) (IE.var .i64 1)), (BE.le (IE.var .i64 1) (IE.len (LE.rom 0))), (BE.not (BE.eq (IE.fn .i64 5 (AL.lst (LE.drop (LE.rom 0) (IE.var .i64 1)) AL.nil)) (IE.lit 0)))] (some []))
def vwmnumn0 : List VW := [wmnumn0_0]
def vwmnumn : Nat → List VW
 | 0 => vwmnumn0
 | _ => []
end
def invmnumn : Nat → Lt → Prop
 | _, _ => True
def msmnumn : Nat → Lt → Nat
 | _, _ => 0
theorem vcsmnumn0 : ∀ v ∈ vwmnumn 0, VC TTmnumn invmnumn msmnumn 0 (startM 87 mNumN.pat mNumN.hp mNumN.cnt0 (.lit true :: mNumN.pre)) v := all_cons (fun _ _ _ _ => all_nil) (all_nil)
theorem okmnumn0 : cfgOk (startM 87 mNumN.pat mNumN.hp mNumN.cnt0 (.lit true :: mNumN.pre)) = true := by kernel_rfl
theorem sgmnumn0 : segM mNumN.roms mNumN (seg TTmnumn selmnumn 900 tmmnumn (startM 87 mNumN.pat mNumN.hp mNumN.cnt0 (.lit true :: mNumN.pre))) = (true, codesR tmmnumn (views (seg TTmnumn selmnumn 900 tmmnumn (startM 87 mNumN.pat mNumN.hp mNumN.cnt0 (.lit true :: mNumN.pre)))), vwmnumn 0) := by kernel_rfl
theorem lnmnumn0 : ∀ ρ, Known TTmnumn (startM 87 mNumN.pat mNumN.hp mNumN.cnt0 (.lit true :: mNumN.pre)) ρ → invmnumn 0 ρ.lt → Holds ρ (leanOf (Cfg.pc (startM 87 mNumN.pat mNumN.hp mNumN.cnt0 (.lit true :: mNumN.pre)))) := by
 intro ρ _ _
 exact (show Holds ρ [] from fun p hp => by cases hp)
theorem told_mnumn : Sx.MTold oct.Φ mNumN := by
 refine mtold_of (cs := [cRead]) (ms' := []) (all_cons told_read (all_nil)) (all_nil) (sel := selmnumn) 900 tmmnumn invmnumn msmnumn vwmnumn 0 (pc0 := (.lit true :: mNumN.pre)) (by kernel_rfl) (by kernel_rfl) (by kernel_rfl) (by kernel_rfl) (mpost_nil rfl) ?_ ?_ ?_ rfl (fun ρ _ h => h.cons (p := .lit true) (by simp only [BE.den])) (fun _ _ _ _ _ => trivial) ?_
 ·intro k C h
  have := lk_mem h
  simp only [tmmnumn, List.mem_cons, Prod.mk.injEq, List.not_mem_nil, or_false] at this
  rcases this with ⟨rfl, rfl⟩
  ·exact okmnumn0
 ·intro k C h
  have := lk_mem h
  simp only [tmmnumn, List.mem_cons, Prod.mk.injEq, List.not_mem_nil, or_false] at this
  rcases this with ⟨rfl, rfl⟩
  ·exact sgmnumn0
 ·intro k C h
  have := lk_mem h
  simp only [tmmnumn, List.mem_cons, Prod.mk.injEq, List.not_mem_nil, or_false] at this
  rcases this with ⟨rfl, rfl⟩
  ·exact vcsmnumn0
 ·intro k C h
  have := lk_mem h
  simp only [tmmnumn, List.mem_cons, Prod.mk.injEq, List.not_mem_nil, or_false] at this
  rcases this with ⟨rfl, rfl⟩
  ·exact lnmnumn0
noncomputable section
abbrev TTmsig : Tab := TM oct.Φ mSig.roms [cSRead] []
def tmmsig : List (Nat × Cfg) := [(0, startM 88 mSig.pat mSig.hp mSig.cnt0 (.lit true :: mSig.pre))]
def selmsig : Sel := []
def wmsig0_0 : VW := (VW.done [(BE.le (IE.lit 0) (IE.fn .i64 4 (AL.lst (LE.drop (LE.rom 0) (IE.var .i64 1)) AL.nil))), (BE.le (IE.fn .i64 4 (AL.lst (LE.drop (LE.rom 0) (IE.var .i64 1)) AL.nil)) (IE.sub (IE.len (LE.rom 0)) (IE.var .i64 1))), (BE.lit true), (BE.le (IE.lit 0) (IE.var .i64 1)), (BE.le (IE.var .i64 1) (IE.len (LE.rom 0))), (BE.eq (IE.fn .i64 5 (AL.lst (LE.drop (LE.rom 0) (IE.var .i64 1)) AL.nil)) (IE.lit 0))] (some []))
def vwmsig0 : List VW := [wmsig0_0]
def vwmsig : Nat → List VW
 | 0 => vwmsig0
 | _ => []
end
def invmsig : Nat → Lt → Prop
 | _, _ => True
def msmsig : Nat → Lt → Nat
 | _, _ => 0
theorem vcsmsig0 : ∀ v ∈ vwmsig 0, VC TTmsig invmsig msmsig 0 (startM 88 mSig.pat mSig.hp mSig.cnt0 (.lit true :: mSig.pre)) v := all_cons (fun _ _ _ _ => all_nil) (all_nil)
theorem okmsig0 : cfgOk (startM 88 mSig.pat mSig.hp mSig.cnt0 (.lit true :: mSig.pre)) = true := by kernel_rfl
theorem sgmsig0 : segM mSig.roms mSig (seg TTmsig selmsig 900 tmmsig (startM 88 mSig.pat mSig.hp mSig.cnt0 (.lit true :: mSig.pre))) = (true, codesR tmmsig (views (seg TTmsig selmsig 900 tmmsig (startM 88 mSig.pat mSig.hp mSig.cnt0 (.lit true :: mSig.pre)))), vwmsig 0) := by kernel_rfl
theorem lnmsig0 : ∀ ρ, Known TTmsig (startM 88 mSig.pat mSig.hp mSig.cnt0 (.lit true :: mSig.pre)) ρ → invmsig 0 ρ.lt → Holds ρ (leanOf (Cfg.pc (startM 88 mSig.pat mSig.hp mSig.cnt0 (.lit true :: mSig.pre)))) := by
 intro ρ _ _
 exact (show Holds ρ [] from fun p hp => by cases hp)
theorem told_msig : Sx.MTold oct.Φ mSig := by
 refine mtold_of (cs := [cSRead]) (ms' := []) (all_cons told_sread (all_nil)) (all_nil) (sel := selmsig) 900 tmmsig invmsig msmsig vwmsig 0 (pc0 := (.lit true :: mSig.pre)) (by kernel_rfl) (by kernel_rfl) (by kernel_rfl) (by kernel_rfl) post_msig ?_ ?_ ?_ rfl (fun ρ _ h => h.cons (p := .lit true) (by simp only [BE.den])) (fun _ _ _ _ _ => trivial) ?_
 ·intro k C h
  have := lk_mem h
  simp only [tmmsig, List.mem_cons, Prod.mk.injEq, List.not_mem_nil, or_false] at this
  rcases this with ⟨rfl, rfl⟩
  ·exact okmsig0
 ·intro k C h
  have := lk_mem h
  simp only [tmmsig, List.mem_cons, Prod.mk.injEq, List.not_mem_nil, or_false] at this
  rcases this with ⟨rfl, rfl⟩
  ·exact sgmsig0
 ·intro k C h
  have := lk_mem h
  simp only [tmmsig, List.mem_cons, Prod.mk.injEq, List.not_mem_nil, or_false] at this
  rcases this with ⟨rfl, rfl⟩
  ·exact vcsmsig0
 ·intro k C h
  have := lk_mem h
  simp only [tmmsig, List.mem_cons, Prod.mk.injEq, List.not_mem_nil, or_false] at this
  rcases this with ⟨rfl, rfl⟩
  ·exact lnmsig0
noncomputable section
abbrev TTmsign : Tab := TM oct.Φ mSigN.roms [cSRead] []
def tmmsign : List (Nat × Cfg) := [(0, startM 88 mSigN.pat mSigN.hp mSigN.cnt0 (.lit true :: mSigN.pre))]
def selmsign : Sel := []
def wmsign0_0 : VW := (VW.done [(BE.le (IE.lit 0) (IE.fn .i64 4 (AL.lst (LE.drop (LE.rom 0) (IE.var .i64 1)) AL.nil))), (BE.le (IE.fn .i64 4 (AL.lst (LE.drop (LE.rom 0) (IE.var .i64 1)) AL.nil)) (IE.sub (IE.len (LE.rom 0)) (IE.var .i64 1))), (BE.lit true), (BE.le (IE.lit 0) (IE.var .i64 1)), (BE.le (IE.var .i64 1) (IE.len (LE.rom 0))), (BE.not (BE.eq (IE.fn .i64 5 (AL.lst (LE.drop (LE.rom 0) (IE.var .i64 1)) AL.nil)) (IE.lit 0)))] (some []))
def vwmsign0 : List VW := [wmsign0_0]
def vwmsign : Nat → List VW
 | 0 => vwmsign0
 | _ => []
end
def invmsign : Nat → Lt → Prop
 | _, _ => True
def msmsign : Nat → Lt → Nat
 | _, _ => 0
theorem vcsmsign0 : ∀ v ∈ vwmsign 0, VC TTmsign invmsign msmsign 0 (startM 88 mSigN.pat mSigN.hp mSigN.cnt0 (.lit true :: mSigN.pre)) v := all_cons (fun _ _ _ _ => all_nil) (all_nil)
theorem okmsign0 : cfgOk (startM 88 mSigN.pat mSigN.hp mSigN.cnt0 (.lit true :: mSigN.pre)) = true := by kernel_rfl
theorem sgmsign0 : segM mSigN.roms mSigN (seg TTmsign selmsign 900 tmmsign (startM 88 mSigN.pat mSigN.hp mSigN.cnt0 (.lit true :: mSigN.pre))) = (true, codesR tmmsign (views (seg TTmsign selmsign 900 tmmsign (startM 88 mSigN.pat mSigN.hp mSigN.cnt0 (.lit true :: mSigN.pre)))), vwmsign 0) := by kernel_rfl
theorem lnmsign0 : ∀ ρ, Known TTmsign (startM 88 mSigN.pat mSigN.hp mSigN.cnt0 (.lit true :: mSigN.pre)) ρ → invmsign 0 ρ.lt → Holds ρ (leanOf (Cfg.pc (startM 88 mSigN.pat mSigN.hp mSigN.cnt0 (.lit true :: mSigN.pre)))) := by
 intro ρ _ _
 exact (show Holds ρ [] from fun p hp => by cases hp)
theorem told_msign : Sx.MTold oct.Φ mSigN := by
 refine mtold_of (cs := [cSRead]) (ms' := []) (all_cons told_sread (all_nil)) (all_nil) (sel := selmsign) 900 tmmsign invmsign msmsign vwmsign 0 (pc0 := (.lit true :: mSigN.pre)) (by kernel_rfl) (by kernel_rfl) (by kernel_rfl) (by kernel_rfl) (mpost_nil rfl) ?_ ?_ ?_ rfl (fun ρ _ h => h.cons (p := .lit true) (by simp only [BE.den])) (fun _ _ _ _ _ => trivial) ?_
 ·intro k C h
  have := lk_mem h
  simp only [tmmsign, List.mem_cons, Prod.mk.injEq, List.not_mem_nil, or_false] at this
  rcases this with ⟨rfl, rfl⟩
  ·exact okmsign0
 ·intro k C h
  have := lk_mem h
  simp only [tmmsign, List.mem_cons, Prod.mk.injEq, List.not_mem_nil, or_false] at this
  rcases this with ⟨rfl, rfl⟩
  ·exact sgmsign0
 ·intro k C h
  have := lk_mem h
  simp only [tmmsign, List.mem_cons, Prod.mk.injEq, List.not_mem_nil, or_false] at this
  rcases this with ⟨rfl, rfl⟩
  ·exact vcsmsign0
 ·intro k C h
  have := lk_mem h
  simp only [tmmsign, List.mem_cons, Prod.mk.injEq, List.not_mem_nil, or_false] at this
  rcases this with ⟨rfl, rfl⟩
  ·exact lnmsign0
noncomputable section
abbrev TTmnums : Tab := TM oct.Φ mNumS.roms [cRead] []
def tmmnums : List (Nat × Cfg) := [(0, startM 87 mNumS.pat mNumS.hp mNumS.cnt0 (.lit true :: mNumS.pre))]
def selmnums : Sel := []
def wmnums0_0 : VW := (VW.done [(BE.le (IE.lit 0) (IE.fn .i64 4 (AL.lst (LE.rom 0) AL.nil))), (BE.le (IE.fn .i64 4 (AL.lst (LE.rom 0) AL.nil)) (IE.len (LE.rom 0))), (BE.lit true), (BE.eq (IE.fn .i64 5 (AL.lst (LE.rom 0) AL.nil)) (IE.lit 0)), (BE.le (IE.fn .u64 3 (AL.lst (LE.rom 0) AL.nil)) (IE.lit 9223372036854775807))] (some []))
def vwmnums0 : List VW := [wmnums0_0]
def vwmnums : Nat → List VW
 | 0 => vwmnums0
 | _ => []
end
def invmnums : Nat → Lt → Prop
 | _, _ => True
def msmnums : Nat → Lt → Nat
 | _, _ => 0
theorem vcsmnums0 : ∀ v ∈ vwmnums 0, VC TTmnums invmnums msmnums 0 (startM 87 mNumS.pat mNumS.hp mNumS.cnt0 (.lit true :: mNumS.pre)) v := all_cons (fun _ _ _ _ => all_nil) (all_nil)
theorem okmnums0 : cfgOk (startM 87 mNumS.pat mNumS.hp mNumS.cnt0 (.lit true :: mNumS.pre)) = true := by kernel_rfl
theorem sgmnums0 : segM mNumS.roms mNumS (seg TTmnums selmnums 900 tmmnums (startM 87 mNumS.pat mNumS.hp mNumS.cnt0 (.lit true :: mNumS.pre))) = (true, codesR tmmnums (views (seg TTmnums selmnums 900 tmmnums (startM 87 mNumS.pat mNumS.hp mNumS.cnt0 (.lit true :: mNumS.pre)))), vwmnums 0) := by kernel_rfl
theorem lnmnums0 : ∀ ρ, Known TTmnums (startM 87 mNumS.pat mNumS.hp mNumS.cnt0 (.lit true :: mNumS.pre)) ρ → invmnums 0 ρ.lt → Holds ρ (leanOf (Cfg.pc (startM 87 mNumS.pat mNumS.hp mNumS.cnt0 (.lit true :: mNumS.pre)))) := by
 intro ρ _ _
 exact (show Holds ρ [] from fun p hp => by cases hp)
theorem told_mnums : Sx.MTold oct.Φ mNumS := by
 refine mtold_of (cs := [cRead]) (ms' := []) (all_cons told_read (all_nil)) (all_nil) (sel := selmnums) 900 tmmnums invmnums msmnums vwmnums 0 (pc0 := (.lit true :: mNumS.pre)) (by kernel_rfl) (by kernel_rfl) (by kernel_rfl) (by kernel_rfl) post_mnums ?_ ?_ ?_ rfl (fun ρ _ h => h.cons (p := .lit true) (by simp only [BE.den])) (fun _ _ _ _ _ => trivial) ?_
 ·intro k C h
  have := lk_mem h
  simp only [tmmnums, List.mem_cons, Prod.mk.injEq, List.not_mem_nil, or_false] at this
  rcases this with ⟨rfl, rfl⟩
  ·exact okmnums0
 ·intro k C h
  have := lk_mem h
  simp only [tmmnums, List.mem_cons, Prod.mk.injEq, List.not_mem_nil, or_false] at this
  rcases this with ⟨rfl, rfl⟩
  ·exact sgmnums0
 ·intro k C h
  have := lk_mem h
  simp only [tmmnums, List.mem_cons, Prod.mk.injEq, List.not_mem_nil, or_false] at this
  rcases this with ⟨rfl, rfl⟩
  ·exact vcsmnums0
 ·intro k C h
  have := lk_mem h
  simp only [tmmnums, List.mem_cons, Prod.mk.injEq, List.not_mem_nil, or_false] at this
  rcases this with ⟨rfl, rfl⟩
  ·exact lnmnums0
noncomputable section
abbrev TTmnumb : Tab := TM oct.Φ mNumB.roms [cRead] []
def tmmnumb : List (Nat × Cfg) := [(0, startM 87 mNumB.pat mNumB.hp mNumB.cnt0 (.lit true :: mNumB.pre))]
def selmnumb : Sel := []
def wmnumb0_0 : VW := (VW.done [(BE.le (IE.lit 0) (IE.fn .i64 4 (AL.lst (LE.rom 0) AL.nil))), (BE.le (IE.fn .i64 4 (AL.lst (LE.rom 0) AL.nil)) (IE.len (LE.rom 0))), (BE.lit true), (BE.eq (IE.fn .i64 5 (AL.lst (LE.rom 0) AL.nil)) (IE.lit 0)), (BE.not (BE.le (IE.fn .u64 3 (AL.lst (LE.rom 0) AL.nil)) (IE.lit 9223372036854775807)))] (some []))
def vwmnumb0 : List VW := [wmnumb0_0]
def vwmnumb : Nat → List VW
 | 0 => vwmnumb0
 | _ => []
end
def invmnumb : Nat → Lt → Prop
 | _, _ => True
def msmnumb : Nat → Lt → Nat
 | _, _ => 0
theorem vcsmnumb0 : ∀ v ∈ vwmnumb 0, VC TTmnumb invmnumb msmnumb 0 (startM 87 mNumB.pat mNumB.hp mNumB.cnt0 (.lit true :: mNumB.pre)) v := all_cons (fun _ _ _ _ => all_nil) (all_nil)
theorem okmnumb0 : cfgOk (startM 87 mNumB.pat mNumB.hp mNumB.cnt0 (.lit true :: mNumB.pre)) = true := by kernel_rfl
theorem sgmnumb0 : segM mNumB.roms mNumB (seg TTmnumb selmnumb 900 tmmnumb (startM 87 mNumB.pat mNumB.hp mNumB.cnt0 (.lit true :: mNumB.pre))) = (true, codesR tmmnumb (views (seg TTmnumb selmnumb 900 tmmnumb (startM 87 mNumB.pat mNumB.hp mNumB.cnt0 (.lit true :: mNumB.pre)))), vwmnumb 0) := by kernel_rfl
theorem lnmnumb0 : ∀ ρ, Known TTmnumb (startM 87 mNumB.pat mNumB.hp mNumB.cnt0 (.lit true :: mNumB.pre)) ρ → invmnumb 0 ρ.lt → Holds ρ (leanOf (Cfg.pc (startM 87 mNumB.pat mNumB.hp mNumB.cnt0 (.lit true :: mNumB.pre)))) := by
 intro ρ _ _
 exact (show Holds ρ [] from fun p hp => by cases hp)
theorem told_mnumb : Sx.MTold oct.Φ mNumB := by
 refine mtold_of (cs := [cRead]) (ms' := []) (all_cons told_read (all_nil)) (all_nil) (sel := selmnumb) 900 tmmnumb invmnumb msmnumb vwmnumb 0 (pc0 := (.lit true :: mNumB.pre)) (by kernel_rfl) (by kernel_rfl) (by kernel_rfl) (by kernel_rfl) post_mnumb ?_ ?_ ?_ rfl (fun ρ _ h => h.cons (p := .lit true) (by simp only [BE.den])) (fun _ _ _ _ _ => trivial) ?_
 ·intro k C h
  have := lk_mem h
  simp only [tmmnumb, List.mem_cons, Prod.mk.injEq, List.not_mem_nil, or_false] at this
  rcases this with ⟨rfl, rfl⟩
  ·exact okmnumb0
 ·intro k C h
  have := lk_mem h
  simp only [tmmnumb, List.mem_cons, Prod.mk.injEq, List.not_mem_nil, or_false] at this
  rcases this with ⟨rfl, rfl⟩
  ·exact sgmnumb0
 ·intro k C h
  have := lk_mem h
  simp only [tmmnumb, List.mem_cons, Prod.mk.injEq, List.not_mem_nil, or_false] at this
  rcases this with ⟨rfl, rfl⟩
  ·exact vcsmnumb0
 ·intro k C h
  have := lk_mem h
  simp only [tmmnumb, List.mem_cons, Prod.mk.injEq, List.not_mem_nil, or_false] at this
  rcases this with ⟨rfl, rfl⟩
  ·exact lnmnumb0
noncomputable section
abbrev TTmnumo : Tab := TM oct.Φ mNumO.roms [cRead] []
def tmmnumo : List (Nat × Cfg) := [(0, startM 87 mNumO.pat mNumO.hp mNumO.cnt0 (.lit true :: mNumO.pre))]
def selmnumo : Sel := []
def wmnumo0_0 : VW := (VW.done [(BE.le (IE.lit 0) (IE.fn .i64 4 (AL.lst (LE.rom 0) AL.nil))), (BE.le (IE.fn .i64 4 (AL.lst (LE.rom 0) AL.nil)) (IE.len (LE.rom 0))), (BE.lit true), (BE.not (BE.eq (IE.fn .i64 5 (AL.lst (LE.rom 0) AL.nil)) (IE.lit 0)))] (some []))
def vwmnumo0 : List VW := [wmnumo0_0]
def vwmnumo : Nat → List VW
 | 0 => vwmnumo0
 | _ => []
end
def invmnumo : Nat → Lt → Prop
 | _, _ => True
def msmnumo : Nat → Lt → Nat
 | _, _ => 0
theorem vcsmnumo0 : ∀ v ∈ vwmnumo 0, VC TTmnumo invmnumo msmnumo 0 (startM 87 mNumO.pat mNumO.hp mNumO.cnt0 (.lit true :: mNumO.pre)) v := all_cons (fun _ _ _ _ => all_nil) (all_nil)
theorem okmnumo0 : cfgOk (startM 87 mNumO.pat mNumO.hp mNumO.cnt0 (.lit true :: mNumO.pre)) = true := by kernel_rfl
theorem sgmnumo0 : segM mNumO.roms mNumO (seg TTmnumo selmnumo 900 tmmnumo (startM 87 mNumO.pat mNumO.hp mNumO.cnt0 (.lit true :: mNumO.pre))) = (true, codesR tmmnumo (views (seg TTmnumo selmnumo 900 tmmnumo (startM 87 mNumO.pat mNumO.hp mNumO.cnt0 (.lit true :: mNumO.pre)))), vwmnumo 0) := by kernel_rfl
theorem lnmnumo0 : ∀ ρ, Known TTmnumo (startM 87 mNumO.pat mNumO.hp mNumO.cnt0 (.lit true :: mNumO.pre)) ρ → invmnumo 0 ρ.lt → Holds ρ (leanOf (Cfg.pc (startM 87 mNumO.pat mNumO.hp mNumO.cnt0 (.lit true :: mNumO.pre)))) := by
 intro ρ _ _
 exact (show Holds ρ [] from fun p hp => by cases hp)
theorem told_mnumo : Sx.MTold oct.Φ mNumO := by
 refine mtold_of (cs := [cRead]) (ms' := []) (all_cons told_read (all_nil)) (all_nil) (sel := selmnumo) 900 tmmnumo invmnumo msmnumo vwmnumo 0 (pc0 := (.lit true :: mNumO.pre)) (by kernel_rfl) (by kernel_rfl) (by kernel_rfl) (by kernel_rfl) (mpost_nil rfl) ?_ ?_ ?_ rfl (fun ρ _ h => h.cons (p := .lit true) (by simp only [BE.den])) (fun _ _ _ _ _ => trivial) ?_
 ·intro k C h
  have := lk_mem h
  simp only [tmmnumo, List.mem_cons, Prod.mk.injEq, List.not_mem_nil, or_false] at this
  rcases this with ⟨rfl, rfl⟩
  ·exact okmnumo0
 ·intro k C h
  have := lk_mem h
  simp only [tmmnumo, List.mem_cons, Prod.mk.injEq, List.not_mem_nil, or_false] at this
  rcases this with ⟨rfl, rfl⟩
  ·exact sgmnumo0
 ·intro k C h
  have := lk_mem h
  simp only [tmmnumo, List.mem_cons, Prod.mk.injEq, List.not_mem_nil, or_false] at this
  rcases this with ⟨rfl, rfl⟩
  ·exact vcsmnumo0
 ·intro k C h
  have := lk_mem h
  simp only [tmmnumo, List.mem_cons, Prod.mk.injEq, List.not_mem_nil, or_false] at this
  rcases this with ⟨rfl, rfl⟩
  ·exact lnmnumo0
end Go.Proofs.Ythenenacmiiphaa.oct
