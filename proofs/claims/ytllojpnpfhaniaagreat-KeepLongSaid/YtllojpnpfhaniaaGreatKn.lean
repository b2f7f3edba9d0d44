/- Layer keep: the law KeepLong. No condition. -/
import Derived.Test.YtllojpnpfhaniaaGreatKm
import Derived.Test.YtllojpnpfhaniaaGreatKx
set_option linter.unusedVariables false
set_option linter.unusedSimpArgs false
set_option linter.deprecated false
namespace Go.Proofs.YtllojpnpfhaniaaGreat.oct
open Go Go.Proofs.YtllojpnpfhaniaaGreat.Sx
noncomputable section
abbrev TTklm : Tab := TM oct.Φ cKLm.roms [cWorksK, cSealN, cFr5, cFr6, cSealX] [mFill, mSum]
def tklm1 : Cfg := { top := ⟨4, over (opqS 10000 82) [(0, (SV.int .i64 (IE.var .i64 1))), (5, (SV.ptr 2 0))], ogt (atTodo (bodyOf (T oct.Φ [] []) 4) 7), [], false, none⟩, rest := [], heap := [(2, .cells [(SV.ptr 0 0), (SV.ptr 5 0), (SV.int .i64 (IE.var .i64 1000)), (SV.int .i64 (IE.lit 5)), (SV.int .i64 (IE.var .i64 1001)), (SV.bool (BE.lit false))] 31), (0, .cells [(SV.int .i64 (IE.lit 140000)), (SV.sll 65 66 1 (IE.lit 0) (IE.lit 5) none), (SV.int .i64 (IE.lit 5)), (SV.const (Go.Value.slice none 0 0)), (SV.int .i64 (IE.lit 0)), (SV.int .i64 (IE.lit 0)), (SV.bool (BE.lit false)), (SV.int .i64 (IE.lit 0))] 61), (5, .cells [(SV.ptr 0 0), (SV.int .i64 (IE.lit 0))] 66), (65, .rowl (LE.cat (LE.one (AL.int .u8 (IE.lit 0) AL.nil)) (LE.cat (LE.one (AL.int .u8 (IE.lit 210) AL.nil)) (LE.cat (LE.one (AL.int .u8 (IE.lit 2) AL.nil)) (LE.cat (LE.one (AL.int .u8 (IE.lit 239) AL.nil)) (LE.one (AL.int .u8 (IE.lit 141) AL.nil)))))) (IE.lit 5) [(CK.int .u8)] 5 66 1)], next := 67, pc := .lit true :: ([] ++ [(BE.le (IE.var .i64 1) (IE.lit (-1))), (BE.le (IE.lit (-1)) (IE.var .i64 1))]) }
def tklm2 : Cfg := { top := ⟨10, over (opqS 10000 35) [(0, (SV.ptr 2 0)), (1, (SV.sll 67 68 1 (IE.lit 0) (IE.add (IE.lit 65536) (IE.var .i64 1)) none))], ogt (atTodo (bodyOf (T oct.Φ [] []) 10) 0), [], false, none⟩, rest := [⟨4, over (opqS 30000 82) [(0, (SV.int .i64 (IE.var .i64 1))), (5, (SV.ptr 2 0)), (7, (SV.sll 67 68 1 (IE.lit 0) (IE.add (IE.lit 65536) (IE.var .i64 1)) none)), (38, (SV.int .i64 (IE.lit 0)))], ogt (callTodo (bodyOf (T oct.Φ [] []) 4) 8 [6, 7, 8, 9]), [], false, none⟩], heap := [(2, .cells [(SV.ptr 0 0), (SV.ptr 5 0), (SV.int .i64 (IE.var .i64 1002)), (SV.int .i64 (IE.lit 5)), (SV.int .i64 (IE.var .i64 1003)), (SV.bool (BE.lit false))] 31), (67, .rowl (LE.rep (AL.int .u8 (IE.lit 0) AL.nil) (IE.add (IE.lit 65536) (IE.var .i64 1))) (IE.add (IE.lit 65536) (IE.var .i64 1)) [(CK.int .u8)] 5 68 1), (0, .cells [(SV.int .i64 (IE.lit 140000)), (SV.sll 92 93 1 (IE.lit 0) (IE.lit 65547) none), (SV.int .i64 (IE.lit 65547)), (SV.const (Go.Value.slice none 0 0)), (SV.int .i64 (IE.lit 0)), (SV.int .i64 (IE.lit 0)), (SV.bool (BE.lit false)), (SV.int .i64 (IE.lit 0))] 61), (5, .cells [(SV.ptr 0 0), (SV.int .i64 (IE.lit 0))] 66), (92, .rowl (LE.cat (LE.cat (LE.one (AL.int .u8 (IE.lit 0) AL.nil)) (LE.cat (LE.one (AL.int .u8 (IE.lit 210) AL.nil)) (LE.cat (LE.one (AL.int .u8 (IE.lit 2) AL.nil)) (LE.cat (LE.one (AL.int .u8 (IE.lit 239) AL.nil)) (LE.one (AL.int .u8 (IE.lit 141) AL.nil)))))) (LE.cat (LE.one (AL.int .u8 (IE.lit 255) AL.nil)) (LE.cat (LE.one (AL.int .u8 (IE.lit 255) AL.nil)) (LE.cat (LE.one (AL.int .u8 (IE.lit 3) AL.nil)) (LE.cat (LE.rep (AL.int .u8 (IE.lit 0) AL.nil) (IE.add (IE.lit 65536) (IE.var .i64 1))) (LE.fn 7 (AL.lst (LE.rep (AL.int .u8 (IE.lit 0) AL.nil) (IE.add (IE.lit 65536) (IE.var .i64 1))) AL.nil))))))) (IE.lit 65547) [(CK.int .u8)] 5 93 1)], next := 94, pc := .lit true :: ([] ++ [(BE.le (IE.lit (-1)) (IE.var .i64 1)), (BE.le (IE.var .i64 1) (IE.lit (-1))), (BE.eq (IE.len (LE.fn 7 (AL.lst (LE.rep (AL.int .u8 (IE.lit 0) AL.nil) (IE.add (IE.lit 65536) (IE.var .i64 1))) AL.nil))) (IE.lit 4)), (BE.eq (IE.len (LE.fn 7 (AL.lst (LE.rep (AL.int .u8 (IE.lit 0) AL.nil) (IE.add (IE.lit 65536) (IE.var .i64 1))) AL.nil))) (IE.lit 4))]) }
def tklm3 : Cfg := { top := ⟨4, over (opqS 10000 82) [(0, (SV.int .i64 (IE.var .i64 1))), (5, (SV.ptr 2 0)), (7, (SV.sll 67 68 1 (IE.lit 0) (IE.add (IE.lit 65536) (IE.var .i64 1)) none)), (8, (SV.int .i64 (IE.lit 0))), (9, (SV.int .i64 (IE.lit 0)))], ogt (atTodo (bodyOf (T oct.Φ [] []) 4) 9), [], false, none⟩, rest := [], heap := [(2, .cells [(SV.ptr 0 0), (SV.ptr 117 0), (SV.int .i64 (IE.lit 0)), (SV.int .i64 (IE.lit 65542)), (SV.int .i64 (IE.lit 0)), (SV.bool (BE.lit false))] 31), (67, .rowl (LE.rep (AL.int .u8 (IE.lit 0) AL.nil) (IE.add (IE.lit 65536) (IE.var .i64 1))) (IE.add (IE.lit 65536) (IE.var .i64 1)) [(CK.int .u8)] 5 68 1), (0, .cells [(SV.int .i64 (IE.lit 140000)), (SV.sll 92 93 1 (IE.lit 0) (IE.lit 65547) none), (SV.int .i64 (IE.lit 65547)), (SV.sll 151 152 1 (IE.lit 0) (IE.lit 65542) none), (SV.int .i64 (IE.lit 65542)), (SV.int .i64 (IE.lit 1)), (SV.bool (BE.lit false)), (SV.int .i64 (IE.lit 0))] 61), (117, .cells [(SV.ptr 0 0), (SV.int .i64 (IE.lit 1))] 66), (92, .rowl (LE.cat (LE.cat (LE.one (AL.int .u8 (IE.lit 0) AL.nil)) (LE.cat (LE.one (AL.int .u8 (IE.lit 210) AL.nil)) (LE.cat (LE.one (AL.int .u8 (IE.lit 2) AL.nil)) (LE.cat (LE.one (AL.int .u8 (IE.lit 239) AL.nil)) (LE.one (AL.int .u8 (IE.lit 141) AL.nil)))))) (LE.cat (LE.one (AL.int .u8 (IE.lit 255) AL.nil)) (LE.cat (LE.one (AL.int .u8 (IE.lit 255) AL.nil)) (LE.cat (LE.one (AL.int .u8 (IE.lit 3) AL.nil)) (LE.cat (LE.rep (AL.int .u8 (IE.lit 0) AL.nil) (IE.add (IE.lit 65536) (IE.var .i64 1))) (LE.fn 7 (AL.lst (LE.rep (AL.int .u8 (IE.lit 0) AL.nil) (IE.add (IE.lit 65536) (IE.var .i64 1))) AL.nil))))))) (IE.lit 65547) [(CK.int .u8)] 5 93 1), (151, .rowl (LE.cat (LE.one (AL.int .u8 (IE.lit 255) AL.nil)) (LE.cat (LE.one (AL.int .u8 (IE.lit 255) AL.nil)) (LE.cat (LE.one (AL.int .u8 (IE.lit 3) AL.nil)) (LE.cat (LE.rep (AL.int .u8 (IE.lit 0) AL.nil) (IE.add (IE.lit 65536) (IE.var .i64 1))) (LE.fn 7 (AL.lst (LE.rep (AL.int .u8 (IE.lit 0) AL.nil) (IE.add (IE.lit 65536) (IE.var .i64 1))) AL.nil)))))) (IE.lit 65542) [(CK.int .u8)] 5 152 1)], next := 153, pc := .lit true :: ([] ++ [(BE.eq (IE.len (LE.fn 7 (AL.lst (LE.rep (AL.int .u8 (IE.lit 0) AL.nil) (IE.add (IE.lit 65536) (IE.var .i64 1))) AL.nil))) (IE.lit 4)), (BE.eq (IE.len (LE.fn 7 (AL.lst (LE.rep (AL.int .u8 (IE.lit 0) AL.nil) (IE.add (IE.lit 65536) (IE.var .i64 1))) AL.nil))) (IE.lit 4)), (BE.le (IE.var .i64 1) (IE.lit (-1))), (BE.le (IE.lit (-1)) (IE.var .i64 1)), (BE.eq (IE.len (LE.fn 7 (AL.lst (LE.rep (AL.int .u8 (IE.lit 0) AL.nil) (IE.add (IE.lit 65536) (IE.var .i64 1))) AL.nil))) (IE.lit 4)), (BE.eq (IE.len (LE.fn 7 (AL.lst (LE.rep (AL.int .u8 (IE.lit 0) AL.nil) (IE.add (IE.lit 65536) (IE.var .i64 1))) AL.nil))) (IE.lit 4))]) }
def tmklm : List (Nat × Cfg) := [(0, startF 4 cKLm.pat (.lit true :: cKLm.pre)), (1, tklm1), (2, tklm2), (3, tklm3)]
def selklm : Sel := [(4, 1007, 0, 1), (10, 1000, 1, 2), (4, 1009, 0, 3)]
abbrev eklmx5 : LE := LE.cat (LE.one (AL.int .u8 (IE.lit 210) AL.nil)) (LE.cat (LE.one (AL.int .u8 (IE.lit 2) AL.nil)) (LE.cat (LE.one (AL.int .u8 (IE.lit 239) AL.nil)) (LE.one (AL.int .u8 (IE.lit 141) AL.nil))))
abbrev eklmx7 : LE := LE.rep (AL.int .u8 (IE.lit 0) AL.nil) (IE.add (IE.lit 65536) (IE.var .i64 1))
abbrev eklmx0 : LE := LE.cat (LE.one (AL.int .u8 (IE.lit 255) AL.nil)) (LE.cat (LE.one (AL.int .u8 (IE.lit 255) AL.nil)) (LE.cat (LE.one (AL.int .u8 (IE.lit 3) AL.nil)) (LE.cat eklmx7 (LE.fn 7 (AL.lst eklmx7 AL.nil)))))
abbrev eklmx1 : IE := IE.fn .u32 20 (AL.lst (LE.take (LE.cat (LE.one (AL.int .u8 (IE.lit 0) AL.nil)) eklmx5) (IE.lit 1)) AL.nil)
abbrev eklmx2 : BE := BE.eq (IE.len (LE.fn 7 (AL.lst eklmx7 AL.nil))) (IE.lit 4)
abbrev eklmx4 : BE := BE.leq (LE.cat (LE.one (AL.int .u8 (IE.wrap .u8 (IE.bin BinOp.shr .u32 eklmx1 (IE.lit 24))) AL.nil)) (LE.cat (LE.one (AL.int .u8 (IE.wrap .u8 (IE.bin BinOp.shr .u32 eklmx1 (IE.lit 16))) AL.nil)) (LE.cat (LE.one (AL.int .u8 (IE.wrap .u8 (IE.bin BinOp.shr .u32 eklmx1 (IE.lit 8))) AL.nil)) (LE.one (AL.int .u8 (IE.wrap .u8 eklmx1) AL.nil))))) eklmx5
abbrev eklmx6 : IE := IE.fn .u32 20 (AL.lst (LE.take eklmx0 (IE.lit 65538)) AL.nil)
abbrev eklmx3 : BE := BE.leq (LE.cat (LE.one (AL.int .u8 (IE.wrap .u8 (IE.bin BinOp.shr .u32 eklmx6 (IE.lit 24))) AL.nil)) (LE.cat (LE.one (AL.int .u8 (IE.wrap .u8 (IE.bin BinOp.shr .u32 eklmx6 (IE.lit 16))) AL.nil)) (LE.cat (LE.one (AL.int .u8 (IE.wrap .u8 (IE.bin BinOp.shr .u32 eklmx6 (IE.lit 8))) AL.nil)) (LE.one (AL.int .u8 (IE.wrap .u8 eklmx6) AL.nil))))) (LE.drop eklmx0 (IE.lit 65538))
abbrev pcklm0_0 : List BE := [(BE.lit true), (BE.le (IE.lit (-1)) (IE.var .i64 1)), (BE.le (IE.var .i64 1) (IE.lit (-1)))]
def wklm0_0 : VW := (VW.cut 1 (eklmx4 :: pcklm0_0) (Sx.Sub.mk [(.i64, (1001, (IE.lit 0))), (.i64, (1000, (IE.lit 0)))] [] [] [] [] []))
def wklm0_1 : VW := (VW.cut 1 ((BE.not eklmx4) :: pcklm0_0) (Sx.Sub.mk [(.i64, (1001, (IE.lit (-5)))), (.i64, (1000, (IE.lit (-1))))] [] [] [] [] []))
def vwklm0 : List VW := [wklm0_0, wklm0_1]
def wklm1_0 : VW := (VW.cut 2 [eklmx2, eklmx2, (BE.lit true), (BE.le (IE.var .i64 1) (IE.lit (-1))), (BE.le (IE.lit (-1)) (IE.var .i64 1))] (Sx.Sub.mk [(.i64, (1003, (IE.wrap .i64 (IE.add (IE.var .i64 1001) (IE.lit 65542))))), (.i64, (1002, (IE.wrap .i64 (IE.add (IE.var .i64 1000) (IE.lit 1)))))] [] [] [] [] []))
def vwklm1 : List VW := [wklm1_0]
def wklm2_0 : VW := (VW.cut 3 [eklmx2, eklmx2, (BE.lit true), (BE.le (IE.lit (-1)) (IE.var .i64 1)), (BE.le (IE.var .i64 1) (IE.lit (-1))), eklmx2, eklmx2] (Sx.Sub.mk [] [] [] [] [] []))
def vwklm2 : List VW := [wklm2_0]
abbrev pcklm3_0 : List BE := [(BE.lit true), eklmx2, eklmx2, (BE.le (IE.var .i64 1) (IE.lit (-1))), (BE.le (IE.lit (-1)) (IE.var .i64 1)), eklmx2, eklmx2]
def wklm3_0 : VW := (VW.done (eklmx3 :: pcklm3_0) (some []))
def wklm3_1 : VW := (VW.done ((BE.not eklmx3) :: pcklm3_0) (some [(G.b (BE.lit true) (BE.lit false))]))
def vwklm3 : List VW := [wklm3_0, wklm3_1]
def vwklm : Nat → List VW
 | 0 => vwklm0
 | 1 => vwklm1
 | 2 => vwklm2
 | 3 => vwklm3
 | _ => []
end
def invklm : Nat → Lt → Prop
 | _, _ => True
def msklm : Nat → Lt → Nat
 | 0, l => 4
 | 1, l => 3
 | 2, l => 2
 | 3, l => 1
 | _, _ => 0
theorem vcklm0_0 : VC TTklm invklm msklm 0 (startF 4 cKLm.pat (.lit true :: cKLm.pre)) wklm0_0 := by
 intro ρ kn hi hp
 have hF : ρ.z.F = oct.Φ := kn.F
 simp only [h_nil, h_cons, d_le, d_eq, d_not, d_var, d_lit, d_cel, d_leq, d_fn, d_and, d_iff, IE.den, LE.den, AL.den, lenV, true_and, and_true, hF, pi2, pi3, pi4, pi5, pi6, pi7, pi20, pl1, pi21, pi22, pl2, pl7] at hp
 obtain ⟨p1, p2, p3⟩ := hp
 refine (show (True) ∧ ((3 : Nat) < 4) from ?_)
 exact ⟨trivial, by decide⟩
theorem vcklm0_1 : VC TTklm invklm msklm 0 (startF 4 cKLm.pat (.lit true :: cKLm.pre)) wklm0_1 := by
 intro ρ kn hi hp
 have hF : ρ.z.F = oct.Φ := kn.F
 simp only [h_nil, h_cons, d_le, d_eq, d_not, d_var, d_lit, d_cel, d_leq, d_fn, d_and, d_iff, IE.den, LE.den, AL.den, lenV, true_and, and_true, hF, pi2, pi3, pi4, pi5, pi6, pi7, pi20, pl1, pi21, pi22, pl2, pl7] at hp
 obtain ⟨p1, p2, p3⟩ := hp
 refine (show (True) ∧ ((3 : Nat) < 4) from ?_)
 exact ⟨trivial, by decide⟩
theorem vcklm1_0 : VC TTklm invklm msklm 1 tklm1 wklm1_0 := by
 intro ρ kn hi hp
 have hF : ρ.z.F = oct.Φ := kn.F
 simp only [h_nil, h_cons, d_le, d_eq, d_not, d_var, d_lit, d_cel, d_leq, d_fn, d_and, d_iff, IE.den, LE.den, AL.den, lenV, true_and, and_true, hF, pi2, pi3, pi4, pi5, pi6, pi7, pi20, pl1, pi21, pi22, pl2, pl7] at hp
 obtain ⟨p1, p2, p3, p4⟩ := hp
 refine (show (True) ∧ ((2 : Nat) < 3) from ?_)
 exact ⟨trivial, by decide⟩
theorem vcklm2_0 : VC TTklm invklm msklm 2 tklm2 wklm2_0 := by
 intro ρ kn hi hp
 have hF : ρ.z.F = oct.Φ := kn.F
 simp only [h_nil, h_cons, d_le, d_eq, d_not, d_var, d_lit, d_cel, d_leq, d_fn, d_and, d_iff, IE.den, LE.den, AL.den, lenV, true_and, and_true, hF, pi2, pi3, pi4, pi5, pi6, pi7, pi20, pl1, pi21, pi22, pl2, pl7] at hp
 obtain ⟨p1, p2, p3, p4, p5, p6⟩ := hp
 refine (show (True) ∧ ((1 : Nat) < 2) from ?_)
 exact ⟨trivial, by decide⟩
theorem vcklm3_1 : VC TTklm invklm msklm 3 tklm3 wklm3_1 := by
 intro ρ kn hi hp
 have hF : ρ.z.F = oct.Φ := kn.F
 simp only [h_nil, h_cons, d_le, d_eq, d_not, d_var, d_lit, d_cel, d_leq, d_fn, d_and, d_iff, IE.den, LE.den, AL.den, lenV, true_and, and_true, hF, pi2, pi3, pi4, pi5, pi6, pi7, pi20, pl1, pi21, pi22, pl2, pl7] at hp
 obtain ⟨p1, p2, p3, p4, p5, p6, p7⟩ := hp
 exfalso
 have hl : ((List.replicate (65536 + ρ.i .i64 1).toNat [Value.int .u8 0]).length : Int) = 65535 := by rw [List.length_replicate]; omega
 simp only [sum_in, List.map, AV.cell] at p1
 rw [fr_sum (a := 255) (b := 255) (c := 3) (n := 65535) (k := 65538) rfl hl rfl, four_s] at p1
 exact p1 (fr_drop (n := 65535) hl rfl).symm
theorem vcsklm0 : ∀ v ∈ vwklm 0, VC TTklm invklm msklm 0 (startF 4 cKLm.pat (.lit true :: cKLm.pre)) v := all_cons vcklm0_0 (all_cons vcklm0_1 (all_nil))
theorem okklm0 : cfgOk (startF 4 cKLm.pat (.lit true :: cKLm.pre)) = true := by kernel_rfl
theorem sgklm0 : segL cKLm.roms cKLm (seg TTklm selklm 9000 tmklm (startF 4 cKLm.pat (.lit true :: cKLm.pre))) = (true, codesR tmklm (views (seg TTklm selklm 9000 tmklm (startF 4 cKLm.pat (.lit true :: cKLm.pre)))), vwklm 0) := by kernel_rfl
theorem vcsklm1 : ∀ v ∈ vwklm 1, VC TTklm invklm msklm 1 tklm1 v := all_cons vcklm1_0 (all_nil)
theorem okklm1 : cfgOk tklm1 = true := by kernel_rfl
theorem sgklm1 : segL cKLm.roms cKLm (seg TTklm selklm 9000 tmklm tklm1) = (true, codesR tmklm (views (seg TTklm selklm 9000 tmklm tklm1)), vwklm 1) := by kernel_rfl
theorem vcsklm2 : ∀ v ∈ vwklm 2, VC TTklm invklm msklm 2 tklm2 v := all_cons vcklm2_0 (all_nil)
theorem okklm2 : cfgOk tklm2 = true := by kernel_rfl
theorem sgklm2 : segL cKLm.roms cKLm (seg TTklm selklm 9000 tmklm tklm2) = (true, codesR tmklm (views (seg TTklm selklm 9000 tmklm tklm2)), vwklm 2) := by kernel_rfl
theorem vcsklm3 : ∀ v ∈ vwklm 3, VC TTklm invklm msklm 3 tklm3 v := all_cons (fun _ _ _ _ => all_nil) (all_cons vcklm3_1 (all_nil))
theorem okklm3 : cfgOk tklm3 = true := by kernel_rfl
theorem sgklm3 : segL cKLm.roms cKLm (seg TTklm selklm 9000 tmklm tklm3) = (true, codesR tmklm (views (seg TTklm selklm 9000 tmklm tklm3)), vwklm 3) := by kernel_rfl
theorem lnklm0 : ∀ ρ, Known TTklm (startF 4 cKLm.pat (.lit true :: cKLm.pre)) ρ → invklm 0 ρ.lt → Holds ρ (leanOf (Cfg.pc (startF 4 cKLm.pat (.lit true :: cKLm.pre)))) := by
 intro ρ _ _
 exact (show Holds ρ [] from fun p hp => by cases hp)
theorem lnklm1 : ∀ ρ, Known TTklm tklm1 ρ → invklm 1 ρ.lt → Holds ρ (leanOf (Cfg.pc tklm1)) := by
 intro ρ _ _
 exact (show Holds ρ [] from fun p hp => by cases hp)
theorem lnklm2 : ∀ ρ, Known TTklm tklm2 ρ → invklm 2 ρ.lt → Holds ρ (leanOf (Cfg.pc tklm2)) := by
 intro ρ _ _
 exact (show Holds ρ [] from fun p hp => by cases hp)
theorem lnklm3 : ∀ ρ, Known TTklm tklm3 ρ → invklm 3 ρ.lt → Holds ρ (leanOf (Cfg.pc tklm3)) := by
 intro ρ _ _
 exact (show Holds ρ [] from fun p hp => by cases hp)
theorem told_klm : Sx.Told oct.Φ cKLm := by
 refine told_ofM (cs := [cWorksK, cSealN, cFr5, cFr6, cSealX]) (ms' := [mFill, mSum]) (all_cons told_works (all_cons told_sealN (all_cons told_fr5 (all_cons told_fr6 (all_cons told_sealx (all_nil)))))) (all_cons told_mfill (all_cons told_msum (all_nil))) (sel := selklm) 9000 tmklm invklm msklm vwklm 0 (pc0 := (.lit true :: cKLm.pre)) (by kernel_rfl) (by kernel_rfl) (by kernel_rfl) (post_nil rfl) ?_ ?_ ?_ rfl (fun ρ _ h => h.cons (p := .lit true) (by simp only [BE.den])) (fun _ _ _ _ => trivial) ?_
 ·intro k C h
  have := lk_mem h
  simp only [tmklm, List.mem_cons, Prod.mk.injEq, List.not_mem_nil, or_false] at this
  rcases this with ⟨rfl, rfl⟩ | ⟨rfl, rfl⟩ | ⟨rfl, rfl⟩ | ⟨rfl, rfl⟩
  ·exact okklm0
  ·exact okklm1
  ·exact okklm2
  ·exact okklm3
 ·intro k C h
  have := lk_mem h
  simp only [tmklm, List.mem_cons, Prod.mk.injEq, List.not_mem_nil, or_false] at this
  rcases this with ⟨rfl, rfl⟩ | ⟨rfl, rfl⟩ | ⟨rfl, rfl⟩ | ⟨rfl, rfl⟩
  ·exact sgklm0
  ·exact sgklm1
  ·exact sgklm2
  ·exact sgklm3
 ·intro k C h
  have := lk_mem h
  simp only [tmklm, List.mem_cons, Prod.mk.injEq, List.not_mem_nil, or_false] at this
  rcases this with ⟨rfl, rfl⟩ | ⟨rfl, rfl⟩ | ⟨rfl, rfl⟩ | ⟨rfl, rfl⟩
  ·exact vcsklm0
  ·exact vcsklm1
  ·exact vcsklm2
  ·exact vcsklm3
 ·intro k C h
  have := lk_mem h
  simp only [tmklm, List.mem_cons, Prod.mk.injEq, List.not_mem_nil, or_false] at this
  rcases this with ⟨rfl, rfl⟩ | ⟨rfl, rfl⟩ | ⟨rfl, rfl⟩ | ⟨rfl, rfl⟩
  ·exact lnklm0
  ·exact lnklm1
  ·exact lnklm2
  ·exact lnklm3
noncomputable section
abbrev TTklo : Tab := TM oct.Φ cKLo.roms [cWorksK, cSealN, cFr5, cFr6, cSealX] [mFill, mSum]
def tklo1 : Cfg := { top := ⟨4, over (opqS 10000 82) [(0, (SV.int .i64 (IE.var .i64 1))), (5, (SV.ptr 2 0))], ogt (atTodo (bodyOf (T oct.Φ [] []) 4) 7), [], false, none⟩, rest := [], heap := [(2, .cells [(SV.ptr 0 0), (SV.ptr 5 0), (SV.int .i64 (IE.var .i64 1000)), (SV.int .i64 (IE.lit 5)), (SV.int .i64 (IE.var .i64 1001)), (SV.bool (BE.lit false))] 31), (0, .cells [(SV.int .i64 (IE.lit 140000)), (SV.sll 65 66 1 (IE.lit 0) (IE.lit 5) none), (SV.int .i64 (IE.lit 5)), (SV.const (Go.Value.slice none 0 0)), (SV.int .i64 (IE.lit 0)), (SV.int .i64 (IE.lit 0)), (SV.bool (BE.lit false)), (SV.int .i64 (IE.lit 0))] 61), (5, .cells [(SV.ptr 0 0), (SV.int .i64 (IE.lit 0))] 66), (65, .rowl (LE.cat (LE.one (AL.int .u8 (IE.lit 0) AL.nil)) (LE.cat (LE.one (AL.int .u8 (IE.lit 210) AL.nil)) (LE.cat (LE.one (AL.int .u8 (IE.lit 2) AL.nil)) (LE.cat (LE.one (AL.int .u8 (IE.lit 239) AL.nil)) (LE.one (AL.int .u8 (IE.lit 141) AL.nil)))))) (IE.lit 5) [(CK.int .u8)] 5 66 1)], next := 67, pc := .lit true :: ([] ++ [(BE.le (IE.var .i64 1) (IE.lit 0)), (BE.le (IE.lit 0) (IE.var .i64 1))]) }
def tklo2 : Cfg := { top := ⟨10, over (opqS 10000 35) [(0, (SV.ptr 2 0)), (1, (SV.sll 67 68 1 (IE.lit 0) (IE.add (IE.lit 65536) (IE.var .i64 1)) none))], ogt (atTodo (bodyOf (T oct.Φ [] []) 10) 0), [], false, none⟩, rest := [⟨4, over (opqS 30000 82) [(0, (SV.int .i64 (IE.var .i64 1))), (5, (SV.ptr 2 0)), (7, (SV.sll 67 68 1 (IE.lit 0) (IE.add (IE.lit 65536) (IE.var .i64 1)) none)), (38, (SV.int .i64 (IE.lit 0)))], ogt (callTodo (bodyOf (T oct.Φ [] []) 4) 8 [6, 7, 8, 9]), [], false, none⟩], heap := [(2, .cells [(SV.ptr 0 0), (SV.ptr 5 0), (SV.int .i64 (IE.var .i64 1002)), (SV.int .i64 (IE.lit 5)), (SV.int .i64 (IE.var .i64 1003)), (SV.bool (BE.lit false))] 31), (67, .rowl (LE.rep (AL.int .u8 (IE.lit 0) AL.nil) (IE.add (IE.lit 65536) (IE.var .i64 1))) (IE.add (IE.lit 65536) (IE.var .i64 1)) [(CK.int .u8)] 5 68 1), (0, .cells [(SV.int .i64 (IE.lit 140000)), (SV.sll 92 93 1 (IE.lit 0) (IE.lit 65548) none), (SV.int .i64 (IE.lit 65548)), (SV.const (Go.Value.slice none 0 0)), (SV.int .i64 (IE.lit 0)), (SV.int .i64 (IE.lit 0)), (SV.bool (BE.lit false)), (SV.int .i64 (IE.lit 0))] 61), (5, .cells [(SV.ptr 0 0), (SV.int .i64 (IE.lit 0))] 66), (92, .rowl (LE.cat (LE.cat (LE.one (AL.int .u8 (IE.lit 0) AL.nil)) (LE.cat (LE.one (AL.int .u8 (IE.lit 210) AL.nil)) (LE.cat (LE.one (AL.int .u8 (IE.lit 2) AL.nil)) (LE.cat (LE.one (AL.int .u8 (IE.lit 239) AL.nil)) (LE.one (AL.int .u8 (IE.lit 141) AL.nil)))))) (LE.cat (LE.one (AL.int .u8 (IE.lit 128) AL.nil)) (LE.cat (LE.one (AL.int .u8 (IE.lit 128) AL.nil)) (LE.cat (LE.one (AL.int .u8 (IE.lit 4) AL.nil)) (LE.cat (LE.rep (AL.int .u8 (IE.lit 0) AL.nil) (IE.add (IE.lit 65536) (IE.var .i64 1))) (LE.fn 7 (AL.lst (LE.rep (AL.int .u8 (IE.lit 0) AL.nil) (IE.add (IE.lit 65536) (IE.var .i64 1))) AL.nil))))))) (IE.lit 65548) [(CK.int .u8)] 5 93 1)], next := 94, pc := .lit true :: ([] ++ [(BE.le (IE.lit 0) (IE.var .i64 1)), (BE.le (IE.var .i64 1) (IE.lit 0)), (BE.eq (IE.len (LE.fn 7 (AL.lst (LE.rep (AL.int .u8 (IE.lit 0) AL.nil) (IE.add (IE.lit 65536) (IE.var .i64 1))) AL.nil))) (IE.lit 4)), (BE.eq (IE.len (LE.fn 7 (AL.lst (LE.rep (AL.int .u8 (IE.lit 0) AL.nil) (IE.add (IE.lit 65536) (IE.var .i64 1))) AL.nil))) (IE.lit 4))]) }
def tklo3 : Cfg := { top := ⟨4, over (opqS 10000 82) [(0, (SV.int .i64 (IE.var .i64 1))), (5, (SV.ptr 2 0)), (7, (SV.sll 67 68 1 (IE.lit 0) (IE.add (IE.lit 65536) (IE.var .i64 1)) none)), (8, (SV.int .i64 (IE.lit 0))), (9, (SV.int .i64 (IE.lit 0)))], ogt (atTodo (bodyOf (T oct.Φ [] []) 4) 9), [], false, none⟩, rest := [], heap := [(2, .cells [(SV.ptr 0 0), (SV.ptr 117 0), (SV.int .i64 (IE.lit 0)), (SV.int .i64 (IE.lit 65543)), (SV.int .i64 (IE.lit 0)), (SV.bool (BE.lit false))] 31), (67, .rowl (LE.rep (AL.int .u8 (IE.lit 0) AL.nil) (IE.add (IE.lit 65536) (IE.var .i64 1))) (IE.add (IE.lit 65536) (IE.var .i64 1)) [(CK.int .u8)] 5 68 1), (0, .cells [(SV.int .i64 (IE.lit 140000)), (SV.sll 92 93 1 (IE.lit 0) (IE.lit 65548) none), (SV.int .i64 (IE.lit 65548)), (SV.sll 151 152 1 (IE.lit 0) (IE.lit 65543) none), (SV.int .i64 (IE.lit 65543)), (SV.int .i64 (IE.lit 1)), (SV.bool (BE.lit false)), (SV.int .i64 (IE.lit 0))] 61), (117, .cells [(SV.ptr 0 0), (SV.int .i64 (IE.lit 1))] 66), (92, .rowl (LE.cat (LE.cat (LE.one (AL.int .u8 (IE.lit 0) AL.nil)) (LE.cat (LE.one (AL.int .u8 (IE.lit 210) AL.nil)) (LE.cat (LE.one (AL.int .u8 (IE.lit 2) AL.nil)) (LE.cat (LE.one (AL.int .u8 (IE.lit 239) AL.nil)) (LE.one (AL.int .u8 (IE.lit 141) AL.nil)))))) (LE.cat (LE.one (AL.int .u8 (IE.lit 128) AL.nil)) (LE.cat (LE.one (AL.int .u8 (IE.lit 128) AL.nil)) (LE.cat (LE.one (AL.int .u8 (IE.lit 4) AL.nil)) (LE.cat (LE.rep (AL.int .u8 (IE.lit 0) AL.nil) (IE.add (IE.lit 65536) (IE.var .i64 1))) (LE.fn 7 (AL.lst (LE.rep (AL.int .u8 (IE.lit 0) AL.nil) (IE.add (IE.lit 65536) (IE.var .i64 1))) AL.nil))))))) (IE.lit 65548) [(CK.int .u8)] 5 93 1), (151, .rowl (LE.cat (LE.one (AL.int .u8 (IE.lit 128) AL.nil)) (LE.cat (LE.one (AL.int .u8 (IE.lit 128) AL.nil)) (LE.cat (LE.one (AL.int .u8 (IE.lit 4) AL.nil)) (LE.cat (LE.rep (AL.int .u8 (IE.lit 0) AL.nil) (IE.add (IE.lit 65536) (IE.var .i64 1))) (LE.fn 7 (AL.lst (LE.rep (AL.int .u8 (IE.lit 0) AL.nil) (IE.add (IE.lit 65536) (IE.var .i64 1))) AL.nil)))))) (IE.lit 65543) [(CK.int .u8)] 5 152 1)], next := 153, pc := .lit true :: ([] ++ [(BE.eq (IE.len (LE.fn 7 (AL.lst (LE.rep (AL.int .u8 (IE.lit 0) AL.nil) (IE.add (IE.lit 65536) (IE.var .i64 1))) AL.nil))) (IE.lit 4)), (BE.eq (IE.len (LE.fn 7 (AL.lst (LE.rep (AL.int .u8 (IE.lit 0) AL.nil) (IE.add (IE.lit 65536) (IE.var .i64 1))) AL.nil))) (IE.lit 4)), (BE.le (IE.var .i64 1) (IE.lit 0)), (BE.le (IE.lit 0) (IE.var .i64 1)), (BE.eq (IE.len (LE.fn 7 (AL.lst (LE.rep (AL.int .u8 (IE.lit 0) AL.nil) (IE.add (IE.lit 65536) (IE.var .i64 1))) AL.nil))) (IE.lit 4)), (BE.eq (IE.len (LE.fn 7 (AL.lst (LE.rep (AL.int .u8 (IE.lit 0) AL.nil) (IE.add (IE.lit 65536) (IE.var .i64 1))) AL.nil))) (IE.lit 4))]) }
def tmklo : List (Nat × Cfg) := [(0, startF 4 cKLo.pat (.lit true :: cKLo.pre)), (1, tklo1), (2, tklo2), (3, tklo3)]
def selklo : Sel := [(4, 1007, 0, 1), (10, 1000, 1, 2), (4, 1009, 0, 3)]
abbrev eklox5 : LE := LE.cat (LE.one (AL.int .u8 (IE.lit 210) AL.nil)) (LE.cat (LE.one (AL.int .u8 (IE.lit 2) AL.nil)) (LE.cat (LE.one (AL.int .u8 (IE.lit 239) AL.nil)) (LE.one (AL.int .u8 (IE.lit 141) AL.nil))))
abbrev eklox7 : LE := LE.rep (AL.int .u8 (IE.lit 0) AL.nil) (IE.add (IE.lit 65536) (IE.var .i64 1))
abbrev eklox0 : LE := LE.cat (LE.one (AL.int .u8 (IE.lit 128) AL.nil)) (LE.cat (LE.one (AL.int .u8 (IE.lit 128) AL.nil)) (LE.cat (LE.one (AL.int .u8 (IE.lit 4) AL.nil)) (LE.cat eklox7 (LE.fn 7 (AL.lst eklox7 AL.nil)))))
abbrev eklox1 : IE := IE.fn .u32 20 (AL.lst (LE.take (LE.cat (LE.one (AL.int .u8 (IE.lit 0) AL.nil)) eklox5) (IE.lit 1)) AL.nil)
abbrev eklox2 : BE := BE.eq (IE.len (LE.fn 7 (AL.lst eklox7 AL.nil))) (IE.lit 4)
abbrev eklox4 : BE := BE.leq (LE.cat (LE.one (AL.int .u8 (IE.wrap .u8 (IE.bin BinOp.shr .u32 eklox1 (IE.lit 24))) AL.nil)) (LE.cat (LE.one (AL.int .u8 (IE.wrap .u8 (IE.bin BinOp.shr .u32 eklox1 (IE.lit 16))) AL.nil)) (LE.cat (LE.one (AL.int .u8 (IE.wrap .u8 (IE.bin BinOp.shr .u32 eklox1 (IE.lit 8))) AL.nil)) (LE.one (AL.int .u8 (IE.wrap .u8 eklox1) AL.nil))))) eklox5
abbrev eklox6 : IE := IE.fn .u32 20 (AL.lst (LE.take eklox0 (IE.lit 65539)) AL.nil)
abbrev eklox3 : BE := BE.leq (LE.cat (LE.one (AL.int .u8 (IE.wrap .u8 (IE.bin BinOp.shr .u32 eklox6 (IE.lit 24))) AL.nil)) (LE.cat (LE.one (AL.int .u8 (IE.wrap .u8 (IE.bin BinOp.shr .u32 eklox6 (IE.lit 16))) AL.nil)) (LE.cat (LE.one (AL.int .u8 (IE.wrap .u8 (IE.bin BinOp.shr .u32 eklox6 (IE.lit 8))) AL.nil)) (LE.one (AL.int .u8 (IE.wrap .u8 eklox6) AL.nil))))) (LE.drop eklox0 (IE.lit 65539))
abbrev pcklo0_0 : List BE := [(BE.lit true), (BE.le (IE.lit 0) (IE.var .i64 1)), (BE.le (IE.var .i64 1) (IE.lit 0))]
def wklo0_0 : VW := (VW.cut 1 (eklox4 :: pcklo0_0) (Sx.Sub.mk [(.i64, (1001, (IE.lit 0))), (.i64, (1000, (IE.lit 0)))] [] [] [] [] []))
def wklo0_1 : VW := (VW.cut 1 ((BE.not eklox4) :: pcklo0_0) (Sx.Sub.mk [(.i64, (1001, (IE.lit (-5)))), (.i64, (1000, (IE.lit (-1))))] [] [] [] [] []))
def vwklo0 : List VW := [wklo0_0, wklo0_1]
def wklo1_0 : VW := (VW.cut 2 [eklox2, eklox2, (BE.lit true), (BE.le (IE.var .i64 1) (IE.lit 0)), (BE.le (IE.lit 0) (IE.var .i64 1))] (Sx.Sub.mk [(.i64, (1003, (IE.wrap .i64 (IE.add (IE.var .i64 1001) (IE.lit 65543))))), (.i64, (1002, (IE.wrap .i64 (IE.add (IE.var .i64 1000) (IE.lit 1)))))] [] [] [] [] []))
def vwklo1 : List VW := [wklo1_0]
def wklo2_0 : VW := (VW.cut 3 [eklox2, eklox2, (BE.lit true), (BE.le (IE.lit 0) (IE.var .i64 1)), (BE.le (IE.var .i64 1) (IE.lit 0)), eklox2, eklox2] (Sx.Sub.mk [] [] [] [] [] []))
def vwklo2 : List VW := [wklo2_0]
abbrev pcklo3_0 : List BE := [(BE.lit true), eklox2, eklox2, (BE.le (IE.var .i64 1) (IE.lit 0)), (BE.le (IE.lit 0) (IE.var .i64 1)), eklox2, eklox2]
def wklo3_0 : VW := (VW.done (eklox3 :: pcklo3_0) (some []))
def wklo3_1 : VW := (VW.done ((BE.not eklox3) :: pcklo3_0) (some [(G.b (BE.lit true) (BE.lit false))]))
def vwklo3 : List VW := [wklo3_0, wklo3_1]
def vwklo : Nat → List VW
 | 0 => vwklo0
 | 1 => vwklo1
 | 2 => vwklo2
 | 3 => vwklo3
 | _ => []
end
def invklo : Nat → Lt → Prop
 | _, _ => True
def msklo : Nat → Lt → Nat
 | 0, l => 4
 | 1, l => 3
 | 2, l => 2
 | 3, l => 1
 | _, _ => 0
theorem vcklo0_0 : VC TTklo invklo msklo 0 (startF 4 cKLo.pat (.lit true :: cKLo.pre)) wklo0_0 := by
 intro ρ kn hi hp
 have hF : ρ.z.F = oct.Φ := kn.F
 simp only [h_nil, h_cons, d_le, d_eq, d_not, d_var, d_lit, d_cel, d_leq, d_fn, d_and, d_iff, IE.den, LE.den, AL.den, lenV, true_and, and_true, hF, pi2, pi3, pi4, pi5, pi6, pi7, pi20, pl1, pi21, pi22, pl2, pl7] at hp
 obtain ⟨p1, p2, p3⟩ := hp
 refine (show (True) ∧ ((3 : Nat) < 4) from ?_)
 exact ⟨trivial, by decide⟩
theorem vcklo0_1 : VC TTklo invklo msklo 0 (startF 4 cKLo.pat (.lit true :: cKLo.pre)) wklo0_1 := by
 intro ρ kn hi hp
 have hF : ρ.z.F = oct.Φ := kn.F
 simp only [h_nil, h_cons, d_le, d_eq, d_not, d_var, d_lit, d_cel, d_leq, d_fn, d_and, d_iff, IE.den, LE.den, AL.den, lenV, true_and, and_true, hF, pi2, pi3, pi4, pi5, pi6, pi7, pi20, pl1, pi21, pi22, pl2, pl7] at hp
 obtain ⟨p1, p2, p3⟩ := hp
 refine (show (True) ∧ ((3 : Nat) < 4) from ?_)
 exact ⟨trivial, by decide⟩
theorem vcklo1_0 : VC TTklo invklo msklo 1 tklo1 wklo1_0 := by
 intro ρ kn hi hp
 have hF : ρ.z.F = oct.Φ := kn.F
 simp only [h_nil, h_cons, d_le, d_eq, d_not, d_var, d_lit, d_cel, d_leq, d_fn, d_and, d_iff, IE.den, LE.den, AL.den, lenV, true_and, and_true, hF, pi2, pi3, pi4, pi5, pi6, pi7, pi20, pl1, pi21, pi22, pl2, pl7] at hp
 obtain ⟨p1, p2, p3, p4⟩ := hp
 refine (show (True) ∧ ((2 : Nat) < 3) from ?_)
 exact ⟨trivial, by decide⟩
theorem vcklo2_0 : VC TTklo invklo msklo 2 tklo2 wklo2_0 := by
 intro ρ kn hi hp
 have hF : ρ.z.F = oct.Φ := kn.F
 simp only [h_nil, h_cons, d_le, d_eq, d_not, d_var, d_lit, d_cel, d_leq, d_fn, d_and, d_iff, IE.den, LE.den, AL.den, lenV, true_and, and_true, hF, pi2, pi3, pi4, pi5, pi6, pi7, pi20, pl1, pi21, pi22, pl2, pl7] at hp
 obtain ⟨p1, p2, p3, p4, p5, p6⟩ := hp
 refine (show (True) ∧ ((1 : Nat) < 2) from ?_)
 exact ⟨trivial, by decide⟩
theorem vcklo3_1 : VC TTklo invklo msklo 3 tklo3 wklo3_1 := by
 intro ρ kn hi hp
 have hF : ρ.z.F = oct.Φ := kn.F
 simp only [h_nil, h_cons, d_le, d_eq, d_not, d_var, d_lit, d_cel, d_leq, d_fn, d_and, d_iff, IE.den, LE.den, AL.den, lenV, true_and, and_true, hF, pi2, pi3, pi4, pi5, pi6, pi7, pi20, pl1, pi21, pi22, pl2, pl7] at hp
 obtain ⟨p1, p2, p3, p4, p5, p6, p7⟩ := hp
 exfalso
 have hl : ((List.replicate (65536 + ρ.i .i64 1).toNat [Value.int .u8 0]).length : Int) = 65536 := by rw [List.length_replicate]; omega
 simp only [sum_in, List.map, AV.cell] at p1
 rw [fr_sum (a := 128) (b := 128) (c := 4) (n := 65536) (k := 65539) rfl hl rfl, four_s] at p1
 exact p1 (fr_drop (n := 65536) hl rfl).symm
theorem vcsklo0 : ∀ v ∈ vwklo 0, VC TTklo invklo msklo 0 (startF 4 cKLo.pat (.lit true :: cKLo.pre)) v := all_cons vcklo0_0 (all_cons vcklo0_1 (all_nil))
theorem okklo0 : cfgOk (startF 4 cKLo.pat (.lit true :: cKLo.pre)) = true := by kernel_rfl
theorem sgklo0 : segL cKLo.roms cKLo (seg TTklo selklo 9000 tmklo (startF 4 cKLo.pat (.lit true :: cKLo.pre))) = (true, codesR tmklo (views (seg TTklo selklo 9000 tmklo (startF 4 cKLo.pat (.lit true :: cKLo.pre)))), vwklo 0) := by kernel_rfl
theorem vcsklo1 : ∀ v ∈ vwklo 1, VC TTklo invklo msklo 1 tklo1 v := all_cons vcklo1_0 (all_nil)
theorem okklo1 : cfgOk tklo1 = true := by kernel_rfl
theorem sgklo1 : segL cKLo.roms cKLo (seg TTklo selklo 9000 tmklo tklo1) = (true, codesR tmklo (views (seg TTklo selklo 9000 tmklo tklo1)), vwklo 1) := by kernel_rfl
theorem vcsklo2 : ∀ v ∈ vwklo 2, VC TTklo invklo msklo 2 tklo2 v := all_cons vcklo2_0 (all_nil)
theorem okklo2 : cfgOk tklo2 = true := by kernel_rfl
theorem sgklo2 : segL cKLo.roms cKLo (seg TTklo selklo 9000 tmklo tklo2) = (true, codesR tmklo (views (seg TTklo selklo 9000 tmklo tklo2)), vwklo 2) := by kernel_rfl
theorem vcsklo3 : ∀ v ∈ vwklo 3, VC TTklo invklo msklo 3 tklo3 v := all_cons (fun _ _ _ _ => all_nil) (all_cons vcklo3_1 (all_nil))
theorem okklo3 : cfgOk tklo3 = true := by kernel_rfl
theorem sgklo3 : segL cKLo.roms cKLo (seg TTklo selklo 9000 tmklo tklo3) = (true, codesR tmklo (views (seg TTklo selklo 9000 tmklo tklo3)), vwklo 3) := by kernel_rfl
theorem lnklo0 : ∀ ρ, Known TTklo (startF 4 cKLo.pat (.lit true :: cKLo.pre)) ρ → invklo 0 ρ.lt → Holds ρ (leanOf (Cfg.pc (startF 4 cKLo.pat (.lit true :: cKLo.pre)))) := by
 intro ρ _ _
 exact (show Holds ρ [] from fun p hp => by cases hp)
theorem lnklo1 : ∀ ρ, Known TTklo tklo1 ρ → invklo 1 ρ.lt → Holds ρ (leanOf (Cfg.pc tklo1)) := by
 intro ρ _ _
 exact (show Holds ρ [] from fun p hp => by cases hp)
theorem lnklo2 : ∀ ρ, Known TTklo tklo2 ρ → invklo 2 ρ.lt → Holds ρ (leanOf (Cfg.pc tklo2)) := by
 intro ρ _ _
 exact (show Holds ρ [] from fun p hp => by cases hp)
theorem lnklo3 : ∀ ρ, Known TTklo tklo3 ρ → invklo 3 ρ.lt → Holds ρ (leanOf (Cfg.pc tklo3)) := by
 intro ρ _ _
 exact (show Holds ρ [] from fun p hp => by cases hp)
theorem told_klo : Sx.Told oct.Φ cKLo := by
 refine told_ofM (cs := [cWorksK, cSealN, cFr5, cFr6, cSealX]) (ms' := [mFill, mSum]) (all_cons told_works (all_cons told_sealN (all_cons told_fr5 (all_cons told_fr6 (all_cons told_sealx (all_nil)))))) (all_cons told_mfill (all_cons told_msum (all_nil))) (sel := selklo) 9000 tmklo invklo msklo vwklo 0 (pc0 := (.lit true :: cKLo.pre)) (by kernel_rfl) (by kernel_rfl) (by kernel_rfl) (post_nil rfl) ?_ ?_ ?_ rfl (fun ρ _ h => h.cons (p := .lit true) (by simp only [BE.den])) (fun _ _ _ _ => trivial) ?_
 ·intro k C h
  have := lk_mem h
  simp only [tmklo, List.mem_cons, Prod.mk.injEq, List.not_mem_nil, or_false] at this
  rcases this with ⟨rfl, rfl⟩ | ⟨rfl, rfl⟩ | ⟨rfl, rfl⟩ | ⟨rfl, rfl⟩
  ·exact okklo0
  ·exact okklo1
  ·exact okklo2
  ·exact okklo3
 ·intro k C h
  have := lk_mem h
  simp only [tmklo, List.mem_cons, Prod.mk.injEq, List.not_mem_nil, or_false] at this
  rcases this with ⟨rfl, rfl⟩ | ⟨rfl, rfl⟩ | ⟨rfl, rfl⟩ | ⟨rfl, rfl⟩
  ·exact sgklo0
  ·exact sgklo1
  ·exact sgklo2
  ·exact sgklo3
 ·intro k C h
  have := lk_mem h
  simp only [tmklo, List.mem_cons, Prod.mk.injEq, List.not_mem_nil, or_false] at this
  rcases this with ⟨rfl, rfl⟩ | ⟨rfl, rfl⟩ | ⟨rfl, rfl⟩ | ⟨rfl, rfl⟩
  ·exact vcsklo0
  ·exact vcsklo1
  ·exact vcsklo2
  ·exact vcsklo3
 ·intro k C h
  have := lk_mem h
  simp only [tmklo, List.mem_cons, Prod.mk.injEq, List.not_mem_nil, or_false] at this
  rcases this with ⟨rfl, rfl⟩ | ⟨rfl, rfl⟩ | ⟨rfl, rfl⟩ | ⟨rfl, rfl⟩
  ·exact lnklo0
  ·exact lnklo1
  ·exact lnklo2
  ·exact lnklo3
noncomputable section
abbrev TTklp : Tab := TM oct.Φ cKLp.roms [cWorksK, cSealN, cFr5, cFr6, cSealX] [mFill, mSum]
abbrev eklpx2 : LE := LE.cat (LE.one (AL.int .u8 (IE.lit 210) AL.nil)) (LE.cat (LE.one (AL.int .u8 (IE.lit 2) AL.nil)) (LE.cat (LE.one (AL.int .u8 (IE.lit 239) AL.nil)) (LE.one (AL.int .u8 (IE.lit 141) AL.nil))))
abbrev eklpx0 : IE := IE.fn .u32 20 (AL.lst (LE.take (LE.cat (LE.one (AL.int .u8 (IE.lit 0) AL.nil)) eklpx2) (IE.lit 1)) AL.nil)
abbrev eklpx1 : BE := BE.leq (LE.cat (LE.one (AL.int .u8 (IE.wrap .u8 (IE.bin BinOp.shr .u32 eklpx0 (IE.lit 24))) AL.nil)) (LE.cat (LE.one (AL.int .u8 (IE.wrap .u8 (IE.bin BinOp.shr .u32 eklpx0 (IE.lit 16))) AL.nil)) (LE.cat (LE.one (AL.int .u8 (IE.wrap .u8 (IE.bin BinOp.shr .u32 eklpx0 (IE.lit 8))) AL.nil)) (LE.one (AL.int .u8 (IE.wrap .u8 eklpx0) AL.nil))))) eklpx2
abbrev pcklp_0 : List BE := [(BE.lit true), (BE.le (IE.lit 1) (IE.var .i64 1)), (BE.le (IE.var .i64 1) (IE.lit 1))]
def wklp_0 : VW := (VW.done (eklpx1 :: pcklp_0) (some []))
def wklp_1 : VW := (VW.done ((BE.not eklpx1) :: pcklp_0) (some [(G.b (BE.lit true) (BE.lit false))]))
def vwklp : List VW := [wklp_0, wklp_1]
end
theorem vcklp_0 : VD TTklp (st0 cKLp) wklp_0 := by
 intro ρ kn hp
 exact all_nil
theorem vcklp_1 : VD TTklp (st0 cKLp) wklp_1 := by
 intro ρ kn hp
 have hF : ρ.z.F = oct.Φ := kn.F
 simp only [h_nil, h_cons, d_le, d_eq, d_not, d_var, d_lit, d_cel, d_leq, d_fn, d_and, d_iff, IE.den, LE.den, AL.den, lenV, true_and, and_true, hF, pi2, pi3, pi4, pi5, pi6, pi7, pi20, pl1, pi21, pi22, pl2, pl7] at hp
 obtain ⟨p1, p2, p3⟩ := hp
 exfalso
 simp only [sum_in, nil_sum, List.map, AV.cell] at *
 first | exact p1 rfl | exact hp rfl
theorem told_klp : Sx.Told oct.Φ cKLp := told_vwM (cs := [cWorksK, cSealN, cFr5, cFr6, cSealX]) (ms' := [mFill, mSum]) (all_cons told_works (all_cons told_sealN (all_cons told_fr5 (all_cons told_fr6 (all_cons told_sealx (all_nil)))))) (all_cons told_mfill (all_cons told_msum (all_nil))) 20000 vwklp (by kernel_rfl) (by kernel_rfl) (by kernel_rfl) (post_nil rfl) (by kernel_rfl) (by kernel_rfl) (all_cons vcklp_0 (all_cons vcklp_1 (all_nil)))
theorem told_kla : Sx.Told oct.Φ cKLa := told_auto (cs := [cWorksK, cSealN, cFr5, cFr6, cSealX]) (all_cons told_works (all_cons told_sealN (all_cons told_fr5 (all_cons told_fr6 (all_cons told_sealx (all_nil)))))) 900 (by kernel_rfl) (by kernel_rfl) (by kernel_rfl) (post_nil rfl) (by kernel_rfl) (by kernel_rfl)
theorem told_klb : Sx.Told oct.Φ cKLb := told_auto (cs := [cWorksK, cSealN, cFr5, cFr6, cSealX]) (all_cons told_works (all_cons told_sealN (all_cons told_fr5 (all_cons told_fr6 (all_cons told_sealx (all_nil)))))) 900 (by kernel_rfl) (by kernel_rfl) (by kernel_rfl) (post_nil rfl) (by kernel_rfl) (by kernel_rfl)
end Go.Proofs.YtllojpnpfhaniaaGreat.oct
