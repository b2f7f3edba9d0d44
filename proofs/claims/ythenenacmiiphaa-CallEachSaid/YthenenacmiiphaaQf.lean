/- Layer octet: numbers, told by the document. No condition. -/
import Derived.Test.YthenenacmiiphaaQg
set_option linter.unusedVariables false
set_option linter.unusedSimpArgs false
set_option linter.deprecated false
namespace Go.Proofs.Ythenenacmiiphaa.oct
open Go Go.Proofs.Ythenenacmiiphaa.Sx
theorem pow_in {i : Nat} (h : i ≤ 9) : clampK .u64 ((128 : Int) ^ i) = 128 ^ i := by
 rw [pow7]
 have h2 : 2 ^ (7 * i) ≤ 2 ^ 63 := Nat.pow_le_pow_right (by omega) (by omega)
 generalize 2 ^ (7 * i) = q at *
 exact u64_in ⟨by omega, by omega⟩
theorem quo7 {n : Int} (h : 0 ≤ n) (h1 : n ≤ 18446744073709551615) : binI .quo .u64 n 128 = n / 128 := by
 show IntKind.wrap .u64 (n.tdiv 128) = n / 128
 rw [Int.tdiv_eq_ediv_of_nonneg h, wrap64u]; omega
noncomputable section
abbrev TTpower : Tab := T oct.Φ cPower.roms []
def tpower1 : Cfg := { top := ⟨137, over (opqS 10000 13) [(0, (SV.int .i64 (IE.var .i64 1))), (3, (SV.int .u64 (IE.var .u64 1000))), (4, (SV.int .i64 (IE.var .i64 1001)))], ogt (loopTodo (bodyOf (T oct.Φ [] []) 137) 0), [], false, none⟩, rest := [], heap := [], next := 1, pc := .lit true :: ([] ++ [(BE.le (IE.var .i64 1) (IE.lit 9)), (BE.le (IE.lit 0) (IE.var .i64 1)), (BE.le (IE.lit 0) (IE.var .i64 1001))]) }
def tmpower : List (Nat × Cfg) := [(0, startF 137 cPower.pat (.lit true :: cPower.pre)), (1, tpower1)]
def selpower : Sel := [(137, 1, 0, 1)]
def wpower0_0 : VW := (VW.cut 1 [(BE.lit true), (BE.le (IE.lit 0) (IE.var .i64 1)), (BE.le (IE.var .i64 1) (IE.lit 9))] (Sx.Sub.mk [(.i64, (1001, (IE.lit 0))), (.u64, (1000, (IE.lit 1)))] [] [] [] [] []))
def vwpower0 : List VW := [wpower0_0]
abbrev pcpower1_0 : List BE := [(BE.lit true), (BE.le (IE.var .i64 1) (IE.lit 9)), (BE.le (IE.lit 0) (IE.var .i64 1)), (BE.le (IE.lit 0) (IE.var .i64 1001))]
def wpower1_0 : VW := (VW.done ((BE.le (IE.var .i64 1) (IE.var .i64 1001)) :: pcpower1_0) (some [(G.i (IE.fn .u64 7 (AL.int .i64 (IE.var .i64 1) AL.nil)) (IE.var .u64 1000))]))
def wpower1_1 : VW := (VW.cut 1 ((BE.not (BE.le (IE.var .i64 1) (IE.var .i64 1001))) :: pcpower1_0) (Sx.Sub.mk [(.i64, (1001, (IE.add (IE.var .i64 1001) (IE.lit 1)))), (.u64, (1000, (IE.wrap .u64 (IE.mul (IE.lit 128) (IE.var .u64 1000)))))] [] [] [] [] []))
def vwpower1 : List VW := [wpower1_0, wpower1_1]
def vwpower : Nat → List VW
 | 0 => vwpower0
 | 1 => vwpower1
 | _ => []
end
def invpower : Nat → Lt → Prop
 | 1, l => (l.i .u64 1000) = 128 ^ (l.i .i64 1001).toNat ∧ (l.i .i64 1001) ≤ (l.i .i64 1)
 | _, _ => True
def mspower : Nat → Lt → Nat
 | 0, l => 20
 | 1, l => (10 - (l.i .i64 1001)).toNat
 | _, _ => 0
theorem vcpower0_0 : VC TTpower invpower mspower 0 (startF 137 cPower.pat (.lit true :: cPower.pre)) wpower0_0 := by
 intro ρ kn hi hp
 have hF : ρ.z.F = oct.Φ := kn.F
 simp only [h_nil, h_cons, d_le, d_eq, d_not, d_var, d_lit, d_cel, d_leq, d_fn, d_and, d_iff, IE.den, LE.den, AL.den, lenV, true_and, and_true, hF, pi2, pi3, pi4, pi5, pi6, pi7] at hp
 obtain ⟨p1, p2⟩ := hp
 refine (show ((1 : Int) = 128 ^ (0 : Int).toNat ∧ (0 : Int) ≤ (ρ.i .i64 1)) ∧ (((10 - (0 : Int)).toNat : Nat) < 20) from ?_)
 exact ⟨⟨rfl, by omega⟩, by omega⟩
def ivpower1 (ρ : Rho) : Prop := (ρ.i .u64 1000) = 128 ^ (ρ.i .i64 1001).toNat ∧ (ρ.i .i64 1001) ≤ (ρ.i .i64 1)
theorem vcpower1_0 : VC TTpower invpower mspower 1 tpower1 wpower1_0 := by
 intro ρ kn hi hp
 have hi : ivpower1 ρ := hi
 unfold ivpower1 at hi
 have hF : ρ.z.F = oct.Φ := kn.F
 simp only [h_nil, h_cons, d_le, d_eq, d_not, d_var, d_lit, d_cel, d_leq, d_fn, d_and, d_iff, IE.den, LE.den, AL.den, lenV, true_and, and_true, hF, pi2, pi3, pi4, pi5, pi6, pi7] at hp
 obtain ⟨p1, p2, p3, p4⟩ := hp
 refine all_cons (show (clampK .u64 (ρ.z.F.i 7 [.int .i64 (ρ.i .i64 1)])) = (ρ.i .u64 1000) from ?_) (all_nil)
 all_goals try simp only [hF, pi2, pi3, pi4, pi5, pi6, pi7]
 obtain ⟨h1, h2⟩ := hi
 rw [show ρ.i .i64 1 = ρ.i .i64 1001 by omega, h1, pow_in (by omega)]
theorem vcpower1_1 : VC TTpower invpower mspower 1 tpower1 wpower1_1 := by
 intro ρ kn hi hp
 have hi : ivpower1 ρ := hi
 unfold ivpower1 at hi
 have hF : ρ.z.F = oct.Φ := kn.F
 simp only [h_nil, h_cons, d_le, d_eq, d_not, d_var, d_lit, d_cel, d_leq, d_fn, d_and, d_iff, IE.den, LE.den, AL.den, lenV, true_and, and_true, hF, pi2, pi3, pi4, pi5, pi6, pi7] at hp
 obtain ⟨p1, p2, p3, p4⟩ := hp
 refine (show ((IntKind.wrap .u64 ((128 : Int) * (ρ.i .u64 1000))) = 128 ^ ((ρ.i .i64 1001) + (1 : Int)).toNat ∧ ((ρ.i .i64 1001) + (1 : Int)) ≤ (ρ.i .i64 1)) ∧ (((10 - ((ρ.i .i64 1001) + (1 : Int))).toNat : Nat) < (10 - (ρ.i .i64 1001)).toNat) from ?_)
 obtain ⟨h1, h2⟩ := hi
 have h3 := pow_in (i := (ρ.i .i64 1001 + 1).toNat) (by omega)
 have h4 : (128 : Int) ^ (ρ.i .i64 1001 + 1).toNat = 128 * 128 ^ (ρ.i .i64 1001).toNat := by
  rw [show (ρ.i .i64 1001 + 1).toNat = (ρ.i .i64 1001).toNat + 1 by omega, Int.pow_succ, Int.mul_comm]
 refine ⟨⟨?_, by omega⟩, by omega⟩
 rw [h1, ← h4]
 exact wrap_in .u64 _ (by rw [← h3]; exact (clamp_rng .u64 _).1) (by rw [← h3]; exact (clamp_rng .u64 _).2)
theorem vcspower0 : ∀ v ∈ vwpower 0, VC TTpower invpower mspower 0 (startF 137 cPower.pat (.lit true :: cPower.pre)) v := all_cons vcpower0_0 (all_nil)
theorem okpower0 : cfgOk (startF 137 cPower.pat (.lit true :: cPower.pre)) = true := by kernel_rfl
theorem sgpower0 : segL cPower.roms cPower (seg TTpower selpower 900 tmpower (startF 137 cPower.pat (.lit true :: cPower.pre))) = (true, codesR tmpower (views (seg TTpower selpower 900 tmpower (startF 137 cPower.pat (.lit true :: cPower.pre)))), vwpower 0) := by kernel_rfl
theorem vcspower1 : ∀ v ∈ vwpower 1, VC TTpower invpower mspower 1 tpower1 v := all_cons vcpower1_0 (all_cons vcpower1_1 (all_nil))
theorem okpower1 : cfgOk tpower1 = true := by kernel_rfl
theorem sgpower1 : segL cPower.roms cPower (seg TTpower selpower 900 tmpower tpower1) = (true, codesR tmpower (views (seg TTpower selpower 900 tmpower tpower1)), vwpower 1) := by kernel_rfl
theorem lnpower0 : ∀ ρ, Known TTpower (startF 137 cPower.pat (.lit true :: cPower.pre)) ρ → invpower 0 ρ.lt → Holds ρ (leanOf (Cfg.pc (startF 137 cPower.pat (.lit true :: cPower.pre)))) := by
 intro ρ _ _
 exact (show Holds ρ [] from fun p hp => by cases hp)
theorem lnpower1 : ∀ ρ, Known TTpower tpower1 ρ → invpower 1 ρ.lt → Holds ρ (leanOf (Cfg.pc tpower1)) := by
 intro ρ _ _
 exact (show Holds ρ [] from fun p hp => by cases hp)
theorem told_power : Sx.Told oct.Φ cPower := by
 refine told_of (cs := []) (all_nil) (sel := selpower) 900 tmpower invpower mspower vwpower 0 (pc0 := (.lit true :: cPower.pre)) (by kernel_rfl) (by kernel_rfl) (by kernel_rfl) (post_nil rfl) ?_ ?_ ?_ rfl (fun ρ _ h => h.cons (p := .lit true) (by simp only [BE.den])) (fun _ _ _ _ => trivial) ?_
 ·intro k C h
  have := lk_mem h
  simp only [tmpower, List.mem_cons, Prod.mk.injEq, List.not_mem_nil, or_false] at this
  rcases this with ⟨rfl, rfl⟩ | ⟨rfl, rfl⟩
  ·exact okpower0
  ·exact okpower1
 ·intro k C h
  have := lk_mem h
  simp only [tmpower, List.mem_cons, Prod.mk.injEq, List.not_mem_nil, or_false] at this
  rcases this with ⟨rfl, rfl⟩ | ⟨rfl, rfl⟩
  ·exact sgpower0
  ·exact sgpower1
 ·intro k C h
  have := lk_mem h
  simp only [tmpower, List.mem_cons, Prod.mk.injEq, List.not_mem_nil, or_false] at this
  rcases this with ⟨rfl, rfl⟩ | ⟨rfl, rfl⟩
  ·exact vcspower0
  ·exact vcspower1
 ·intro k C h
  have := lk_mem h
  simp only [tmpower, List.mem_cons, Prod.mk.injEq, List.not_mem_nil, or_false] at this
  rcases this with ⟨rfl, rfl⟩ | ⟨rfl, rfl⟩
  ·exact lnpower0
  ·exact lnpower1
noncomputable section
abbrev TTrread : Tab := T oct.Φ cRRead.roms [cPower]
def trread1 : Cfg := { top := ⟨115, over (opqS 10000 52) [(0, (SV.rom 0 (IE.lit 0) (IE.len (LE.rom 0)) none)), (5, (SV.int .u64 (IE.var .u64 1000))), (6, (SV.int .i64 (IE.var .i64 1001)))], ogt (loopTodo (bodyOf (T oct.Φ [] []) 115) 0), [], false, none⟩, rest := [], heap := [], next := 1, pc := .lit true :: ([] ++ [(BE.le (IE.lit 0) (IE.var .i64 1001)), (BE.le (IE.var .i64 1001) (IE.len (LE.rom 0)))] ++ (.and (.lit true) (.lit true)) :: [.le (.var .i64 1001) (.lit 9)]) }
def tmrread : List (Nat × Cfg) := [(0, startF 115 cRRead.pat [.lit true]), (1, trread1)]
def selrread : Sel := [(115, 1, 0, 1)]
abbrev erreadx1 : IE := IE.cel .u8 (LE.rom 0) (IE.var .i64 1001) 0
abbrev erreadx2 : IE := IE.fn .u64 3 (AL.lst (LE.rom 0) AL.nil)
abbrev erreadx3 : IE := IE.fn .i64 4 (AL.lst (LE.rom 0) AL.nil)
abbrev erreadx4 : IE := IE.fn .i64 5 (AL.lst (LE.rom 0) AL.nil)
abbrev erreadx5 : IE := IE.add (IE.var .i64 1001) (IE.lit 1)
abbrev erreadx0 : IE := IE.wrap .u64 (IE.add (IE.var .u64 1000) (IE.wrap .u64 (IE.mul (IE.bin BinOp.rem .u8 erreadx1 (IE.lit 128)) (IE.fn .u64 7 (AL.int .i64 (IE.var .i64 1001) AL.nil)))))
def wrread0_0 : VW := (VW.cut 1 [(BE.lit true)] (Sx.Sub.mk [(.i64, (1001, (IE.lit 0))), (.u64, (1000, (IE.lit 0)))] [] [] [] [] []))
def vwrread0 : List VW := [wrread0_0]
abbrev pcrread1_0 : List BE := [(BE.lit true), (BE.le (IE.lit 0) (IE.var .i64 1001)), (BE.le (IE.var .i64 1001) (IE.len (LE.rom 0))), (BE.and (BE.lit true) (BE.lit true)), (BE.le (IE.var .i64 1001) (IE.lit 9))]
abbrev pcrread1_1 : List BE := ((BE.not (BE.le (IE.len (LE.rom 0)) (IE.var .i64 1001))) :: pcrread1_0)
abbrev pcrread1_2 : List BE := ((BE.eq (IE.var .i64 1001) (IE.lit 9)) :: pcrread1_1)
abbrev pcrread1_3 : List BE := ((BE.not (BE.eq (IE.var .i64 1001) (IE.lit 9))) :: pcrread1_1)
abbrev pcrread1_4 : List BE := ((BE.le erreadx1 (IE.lit 1)) :: pcrread1_2)
abbrev pcrread1_5 : List BE := ((BE.le (IE.var .i64 1001) (IE.lit 0)) :: pcrread1_3)
abbrev pcrread1_6 : List BE := ((BE.not (BE.le (IE.var .i64 1001) (IE.lit 0))) :: pcrread1_3)
abbrev pcrread1_7 : List BE := ((BE.not (BE.eq erreadx1 (IE.lit 0))) :: pcrread1_6)
def wrread1_0 : VW := (VW.done ((BE.le (IE.len (LE.rom 0)) (IE.var .i64 1001)) :: pcrread1_0) (some [(G.i erreadx2 (IE.lit 0)), (G.i erreadx3 (IE.lit 0)), (G.i erreadx4 (IE.lit 110))]))
def wrread1_1 : VW := (VW.done ((BE.eq erreadx1 (IE.lit 0)) :: pcrread1_4) (some [(G.i erreadx2 (IE.lit 0)), (G.i erreadx3 (IE.lit 0)), (G.i erreadx4 (IE.lit 111))]))
def wrread1_2 : VW := (VW.done ((BE.not (BE.eq erreadx1 (IE.lit 0))) :: pcrread1_4) (some [(G.i erreadx2 erreadx0), (G.i erreadx3 erreadx5), (G.i erreadx4 (IE.lit 0))]))
def wrread1_3 : VW := (VW.done ((BE.not (BE.le erreadx1 (IE.lit 1))) :: pcrread1_2) (some [(G.i erreadx2 (IE.lit 0)), (G.i erreadx3 (IE.lit 0)), (G.i erreadx4 (IE.lit 111))]))
def wrread1_4 : VW := (VW.cut 1 ((BE.le (IE.lit 128) erreadx1) :: pcrread1_5) (Sx.Sub.mk [(.i64, (1001, erreadx5)), (.u64, (1000, erreadx0))] [] [] [] [] []))
def wrread1_5 : VW := (VW.done ((BE.not (BE.le (IE.lit 128) erreadx1)) :: pcrread1_5) (some [(G.i erreadx2 erreadx0), (G.i erreadx3 erreadx5), (G.i erreadx4 (IE.lit 0))]))
def wrread1_6 : VW := (VW.done ((BE.eq erreadx1 (IE.lit 0)) :: pcrread1_6) (some [(G.i erreadx2 (IE.lit 0)), (G.i erreadx3 (IE.lit 0)), (G.i erreadx4 (IE.lit 111))]))
def wrread1_7 : VW := (VW.cut 1 ((BE.le (IE.lit 128) erreadx1) :: pcrread1_7) (Sx.Sub.mk [(.i64, (1001, erreadx5)), (.u64, (1000, erreadx0))] [] [] [] [] []))
def wrread1_8 : VW := (VW.done ((BE.not (BE.le (IE.lit 128) erreadx1)) :: pcrread1_7) (some [(G.i erreadx2 erreadx0), (G.i erreadx3 erreadx5), (G.i erreadx4 (IE.lit 0))]))
def vwrread1 : List VW := [wrread1_0, wrread1_1, wrread1_2, wrread1_3, wrread1_4, wrread1_5, wrread1_6, wrread1_7, wrread1_8]
def vwrread : Nat → List VW
 | 0 => vwrread0
 | 1 => vwrread1
 | _ => []
end
def invrread : Nat → Lt → Prop
 | 1, l => firstP (stopP (l.z.rl 0)) (l.i .i64 1001).toNat = (l.i .i64 1001).toNat ∧ (l.i .u64 1000) = valI (l.z.rl 0) (l.i .i64 1001).toNat
 | _, _ => True
def msrread : Nat → Lt → Nat
 | 0, l => (l.z.rl 0).length + 1
 | 1, l => (l.z.rl 0).length - (l.i .i64 1001).toNat
 | _, _ => 0
theorem vcrread0_0 : VC TTrread invrread msrread 0 (startF 115 cRRead.pat [.lit true]) wrread0_0 := by
 intro ρ kn hi hp
 have hF : ρ.z.F = oct.Φ := kn.F
 simp only [h_nil, h_cons, d_le, d_eq, d_not, d_var, d_lit, d_cel, d_leq, d_fn, d_and, d_iff, IE.den, LE.den, AL.den, lenV, true_and, and_true, hF, pi2, pi3, pi4, pi5, pi6, pi7] at hp
 refine (show (firstP (stopP (ρ.z.rl 0)) (0 : Int).toNat = (0 : Int).toNat ∧ (0 : Int) = valI (ρ.z.rl 0) (0 : Int).toNat) ∧ (((ρ.z.rl 0).length - (0 : Int).toNat : Nat) < (ρ.z.rl 0).length + 1) from ?_)
 exact ⟨⟨rfl, rfl⟩, by omega⟩
def ivrread1 (ρ : Rho) : Prop := firstP (stopP (ρ.z.rl 0)) (ρ.i .i64 1001).toNat = (ρ.i .i64 1001).toNat ∧ (ρ.i .u64 1000) = valI (ρ.z.rl 0) (ρ.i .i64 1001).toNat
theorem vcgrread1_1 : VC TTrread invrread msrread 1 trread1 wrread1_1 ∧ VC TTrread invrread msrread 1 trread1 wrread1_3 ∧ VC TTrread invrread msrread 1 trread1 wrread1_6 := by
  refine ⟨?_, ?_, ?_⟩
  all_goals
    intro ρ kn hi hp
    have hi : ivrread1 ρ := hi
    unfold ivrread1 at hi
    have hF : ρ.z.F = oct.Φ := kn.F
    simp only [h_nil, h_cons, d_le, d_eq, d_not, d_var, d_lit, d_cel, d_leq, d_fn, d_and, d_iff, IE.den, LE.den, AL.den, lenV, true_and, and_true, hF, pi2, pi3, pi4, pi5, pi6, pi7] at hp
    have p1 := And.left hp
    replace hp := And.right hp
    repeat (have _ := And.left hp; replace hp := And.right hp)
    refine all_cons (show (clampK .u64 (ρ.z.F.i 3 [.lst (ρ.z.rl 0)])) = (0 : Int) from ?_) (all_cons (show (clampK .i64 (ρ.z.F.i 4 [.lst (ρ.z.rl 0)])) = (0 : Int) from ?_) (all_cons (show (clampK .i64 (ρ.z.F.i 5 [.lst (ρ.z.rl 0)])) = (111 : Int) from ?_) (all_nil)))
    all_goals try simp only [hF, pi2, pi3, pi4, pi5, pi6, pi7]
    all_goals
      obtain ⟨h1, h2⟩ := hi
      first
        | (have k := r_end (R := ρ.z.rl 0) (i := ρ.i .i64 1001) (by omega) (by omega) h1
           obtain ⟨a, b, c⟩ := k
           first | (rw [a]; rfl) | (rw [b]; rfl) | (rw [c]; rfl))
        | (have k := r_bad (R := ρ.z.rl 0) (i := ρ.i .i64 1001) (by omega) (by omega) h1 (bad_t (by omega) (by omega))
           obtain ⟨a, b, c⟩ := k
           first | (rw [a]; rfl) | (rw [b]; rfl) | (rw [c]; rfl))
        | (have hb := bad_f (R := ρ.z.rl 0) (i := ρ.i .i64 1001) (by omega) (by omega) (by omega)
           have k := r_ok (R := ρ.z.rl 0) (i := ρ.i .i64 1001) (by omega) (by omega) h1 hb (by omega)
           obtain ⟨a, b, c⟩ := k
           first
             | (rw [a, val_in (by omega) h1 hb, h2]; exact (rread_v (by omega) h1 hb).symm)
             | (rw [b, clampS (by omega) (by omega)]; done)
             | (rw [b, clampS (by omega) (by omega)]; omega)
             | (rw [c]; rfl))
theorem vcgrread1_2 : VC TTrread invrread msrread 1 trread1 wrread1_2 ∧ VC TTrread invrread msrread 1 trread1 wrread1_5 ∧ VC TTrread invrread msrread 1 trread1 wrread1_8 := by
  refine ⟨?_, ?_, ?_⟩
  all_goals
    intro ρ kn hi hp
    have hi : ivrread1 ρ := hi
    unfold ivrread1 at hi
    have hF : ρ.z.F = oct.Φ := kn.F
    simp only [h_nil, h_cons, d_le, d_eq, d_not, d_var, d_lit, d_cel, d_leq, d_fn, d_and, d_iff, IE.den, LE.den, AL.den, lenV, true_and, and_true, hF, pi2, pi3, pi4, pi5, pi6, pi7] at hp
    have p1 := And.left hp
    replace hp := And.right hp
    repeat (have _ := And.left hp; replace hp := And.right hp)
    refine all_cons (show (clampK .u64 (ρ.z.F.i 3 [.lst (ρ.z.rl 0)])) = (IntKind.wrap .u64 ((ρ.i .u64 1000) + (IntKind.wrap .u64 ((binI BinOp.rem .u8 (clampK .u8 (intV (celV (ρ.z.rl 0) (ρ.i .i64 1001) 0))) (128 : Int)) * (clampK .u64 (ρ.z.F.i 7 [.int .i64 (ρ.i .i64 1001)])))))) from ?_) (all_cons (show (clampK .i64 (ρ.z.F.i 4 [.lst (ρ.z.rl 0)])) = ((ρ.i .i64 1001) + (1 : Int)) from ?_) (all_cons (show (clampK .i64 (ρ.z.F.i 5 [.lst (ρ.z.rl 0)])) = (0 : Int) from ?_) (all_nil)))
    all_goals try simp only [hF, pi2, pi3, pi4, pi5, pi6, pi7]
    all_goals
      obtain ⟨h1, h2⟩ := hi
      first
        | (have k := r_end (R := ρ.z.rl 0) (i := ρ.i .i64 1001) (by omega) (by omega) h1
           obtain ⟨a, b, c⟩ := k
           first | (rw [a]; rfl) | (rw [b]; rfl) | (rw [c]; rfl))
        | (have k := r_bad (R := ρ.z.rl 0) (i := ρ.i .i64 1001) (by omega) (by omega) h1 (bad_t (by omega) (by omega))
           obtain ⟨a, b, c⟩ := k
           first | (rw [a]; rfl) | (rw [b]; rfl) | (rw [c]; rfl))
        | (have hb := bad_f (R := ρ.z.rl 0) (i := ρ.i .i64 1001) (by omega) (by omega) (by omega)
           have k := r_ok (R := ρ.z.rl 0) (i := ρ.i .i64 1001) (by omega) (by omega) h1 hb (by omega)
           obtain ⟨a, b, c⟩ := k
           first
             | (rw [a, val_in (by omega) h1 hb, h2]; exact (rread_v (by omega) h1 hb).symm)
             | (rw [b, clampS (by omega) (by omega)]; done)
             | (rw [b, clampS (by omega) (by omega)]; omega)
             | (rw [c]; rfl))
theorem vcrread1_0 : VC TTrread invrread msrread 1 trread1 wrread1_0 := by
  intro ρ kn hi hp
  have hi : ivrread1 ρ := hi
  unfold ivrread1 at hi
  have hF : ρ.z.F = oct.Φ := kn.F
  simp only [h_nil, h_cons, d_le, d_eq, d_not, d_var, d_lit, d_cel, d_leq, d_fn, d_and, d_iff, IE.den, LE.den, AL.den, lenV, true_and, and_true, hF, pi2, pi3, pi4, pi5, pi6, pi7] at hp
  obtain ⟨p1, p2, p3, p4⟩ := hp
  refine all_cons (show (clampK .u64 (ρ.z.F.i 3 [.lst (ρ.z.rl 0)])) = (0 : Int) from ?_) (all_cons (show (clampK .i64 (ρ.z.F.i 4 [.lst (ρ.z.rl 0)])) = (0 : Int) from ?_) (all_cons (show (clampK .i64 (ρ.z.F.i 5 [.lst (ρ.z.rl 0)])) = (110 : Int) from ?_) (all_nil)))
  all_goals try simp only [hF, pi2, pi3, pi4, pi5, pi6, pi7]
  all_goals
    obtain ⟨h1, h2⟩ := hi
    first
      | (have k := r_end (R := ρ.z.rl 0) (i := ρ.i .i64 1001) (by omega) (by omega) h1
         obtain ⟨a, b, c⟩ := k
         first | (rw [a]; rfl) | (rw [b]; rfl) | (rw [c]; rfl))
      | (have k := r_bad (R := ρ.z.rl 0) (i := ρ.i .i64 1001) (by omega) (by omega) h1 (bad_t (by omega) (by omega))
         obtain ⟨a, b, c⟩ := k
         first | (rw [a]; rfl) | (rw [b]; rfl) | (rw [c]; rfl))
      | (have hb := bad_f (R := ρ.z.rl 0) (i := ρ.i .i64 1001) (by omega) (by omega) (by omega)
         have k := r_ok (R := ρ.z.rl 0) (i := ρ.i .i64 1001) (by omega) (by omega) h1 hb (by omega)
         obtain ⟨a, b, c⟩ := k
         first
           | (rw [a, val_in (by omega) h1 hb, h2]; exact (rread_v (by omega) h1 hb).symm)
           | (rw [b, clampS (by omega) (by omega)]; done)
           | (rw [b, clampS (by omega) (by omega)]; omega)
           | (rw [c]; rfl))
theorem vcrread1_4 : VC TTrread invrread msrread 1 trread1 wrread1_4 := by
 intro ρ kn hi hp
 have hi : ivrread1 ρ := hi
 unfold ivrread1 at hi
 have hF : ρ.z.F = oct.Φ := kn.F
 simp only [h_nil, h_cons, d_le, d_eq, d_not, d_var, d_lit, d_cel, d_leq, d_fn, d_and, d_iff, IE.den, LE.den, AL.den, lenV, true_and, and_true, hF, pi2, pi3, pi4, pi5, pi6, pi7] at hp
 obtain ⟨p1, p2, p3, p4, p5, p6, p7⟩ := hp
 refine (show (firstP (stopP (ρ.z.rl 0)) ((ρ.i .i64 1001) + (1 : Int)).toNat = ((ρ.i .i64 1001) + (1 : Int)).toNat ∧ (IntKind.wrap .u64 ((ρ.i .u64 1000) + (IntKind.wrap .u64 ((binI BinOp.rem .u8 (clampK .u8 (intV (celV (ρ.z.rl 0) (ρ.i .i64 1001) 0))) (128 : Int)) * (clampK .u64 (ρ.z.F.i 7 [.int .i64 (ρ.i .i64 1001)])))))) = valI (ρ.z.rl 0) ((ρ.i .i64 1001) + (1 : Int)).toNat) ∧ (((ρ.z.rl 0).length - ((ρ.i .i64 1001) + (1 : Int)).toNat : Nat) < (ρ.z.rl 0).length - (ρ.i .i64 1001).toNat) from ?_)
 simp only [hF, pi2, pi3, pi4, pi5, pi6, pi7]
 obtain ⟨h1, h2⟩ := hi
 rw [h2]
 have hb := bad_f (R := ρ.z.rl 0) (i := ρ.i .i64 1001) (by omega) (by omega) (by omega)
 exact ⟨⟨go_on (by omega) h1 hb (by assumption), rread_v (by omega) h1 hb⟩, by omega⟩
theorem vcrread1_7 : VC TTrread invrread msrread 1 trread1 wrread1_7 := by
 intro ρ kn hi hp
 have hi : ivrread1 ρ := hi
 unfold ivrread1 at hi
 have hF : ρ.z.F = oct.Φ := kn.F
 simp only [h_nil, h_cons, d_le, d_eq, d_not, d_var, d_lit, d_cel, d_leq, d_fn, d_and, d_iff, IE.den, LE.den, AL.den, lenV, true_and, and_true, hF, pi2, pi3, pi4, pi5, pi6, pi7] at hp
 obtain ⟨p1, p2, p3, p4, p5, p6, p7, p8⟩ := hp
 refine (show (firstP (stopP (ρ.z.rl 0)) ((ρ.i .i64 1001) + (1 : Int)).toNat = ((ρ.i .i64 1001) + (1 : Int)).toNat ∧ (IntKind.wrap .u64 ((ρ.i .u64 1000) + (IntKind.wrap .u64 ((binI BinOp.rem .u8 (clampK .u8 (intV (celV (ρ.z.rl 0) (ρ.i .i64 1001) 0))) (128 : Int)) * (clampK .u64 (ρ.z.F.i 7 [.int .i64 (ρ.i .i64 1001)])))))) = valI (ρ.z.rl 0) ((ρ.i .i64 1001) + (1 : Int)).toNat) ∧ (((ρ.z.rl 0).length - ((ρ.i .i64 1001) + (1 : Int)).toNat : Nat) < (ρ.z.rl 0).length - (ρ.i .i64 1001).toNat) from ?_)
 simp only [hF, pi2, pi3, pi4, pi5, pi6, pi7]
 obtain ⟨h1, h2⟩ := hi
 rw [h2]
 have hb := bad_f (R := ρ.z.rl 0) (i := ρ.i .i64 1001) (by omega) (by omega) (by omega)
 exact ⟨⟨go_on (by omega) h1 hb (by assumption), rread_v (by omega) h1 hb⟩, by omega⟩
theorem vcsrread0 : ∀ v ∈ vwrread 0, VC TTrread invrread msrread 0 (startF 115 cRRead.pat [.lit true]) v := all_cons vcrread0_0 (all_nil)
theorem okrread0 : cfgOk (startF 115 cRRead.pat [.lit true]) = true := by kernel_rfl
theorem sgrread0 : segL cRRead.roms cRRead (seg TTrread selrread 900 tmrread (startF 115 cRRead.pat [.lit true])) = (true, codesR tmrread (views (seg TTrread selrread 900 tmrread (startF 115 cRRead.pat [.lit true]))), vwrread 0) := by kernel_rfl
theorem vcsrread1 : ∀ v ∈ vwrread 1, VC TTrread invrread msrread 1 trread1 v := all_cons vcrread1_0 (all_cons vcgrread1_1.1 (all_cons vcgrread1_2.1 (all_cons vcgrread1_1.2.1 (all_cons vcrread1_4 (all_cons vcgrread1_2.2.1 (all_cons vcgrread1_1.2.2 (all_cons vcrread1_7 (all_cons vcgrread1_2.2.2 (all_nil)))))))))
theorem okrread1 : cfgOk trread1 = true := by kernel_rfl
theorem sgrread1 : segL cRRead.roms cRRead (seg TTrread selrread 900 tmrread trread1) = (true, codesR tmrread (views (seg TTrread selrread 900 tmrread trread1)), vwrread 1) := by kernel_rfl
theorem lnrread0 : ∀ ρ, Known TTrread (startF 115 cRRead.pat [.lit true]) ρ → invrread 0 ρ.lt → Holds ρ (leanOf (Cfg.pc (startF 115 cRRead.pat [.lit true]))) := by
 intro ρ _ _
 exact (show Holds ρ [] from fun p hp => by cases hp)
theorem lnrread1 : ∀ ρ, Known TTrread trread1 ρ → invrread 1 ρ.lt → Holds ρ (leanOf (Cfg.pc trread1)) := by
 intro ρ kn hi
 refine (show Holds ρ [.le (.var .i64 1001) (.lit 9)] from ?_)
 have hi : firstP (stopP (ρ.z.rl 0)) (ρ.i .i64 1001).toNat = (ρ.i .i64 1001).toNat ∧ (ρ.i .u64 1000) = valI (ρ.z.rl 0) (ρ.i .i64 1001).toNat := hi
 have hF : ρ.z.F = oct.Φ := kn.F
 simp only [h_nil, h_cons, d_le, d_eq, d_not, d_var, d_lit, d_cel, d_leq, d_fn, d_and, d_iff, IE.den, LE.den, AL.den, lenV, true_and, and_true, hF, pi2, pi3, pi4, pi5, pi6, pi7]
 obtain ⟨h1, h2⟩ := hi
 have := run9 h1
 omega
theorem told_rread : Sx.Told oct.Φ cRRead := by
 refine told_of (cs := [cPower]) (all_cons told_power (all_nil)) (sel := selrread) 900 tmrread invrread msrread vwrread 0 (pc0 := [.lit true]) (by kernel_rfl) (by kernel_rfl) (by kernel_rfl) post_rread ?_ ?_ ?_ rfl (fun ρ _ _ => by simp [Holds, BE.den]) (fun _ _ _ _ => trivial) ?_
 ·intro k C h
  have := lk_mem h
  simp only [tmrread, List.mem_cons, Prod.mk.injEq, List.not_mem_nil, or_false] at this
  rcases this with ⟨rfl, rfl⟩ | ⟨rfl, rfl⟩
  ·exact okrread0
  ·exact okrread1
 ·intro k C h
  have := lk_mem h
  simp only [tmrread, List.mem_cons, Prod.mk.injEq, List.not_mem_nil, or_false] at this
  rcases this with ⟨rfl, rfl⟩ | ⟨rfl, rfl⟩
  ·exact sgrread0
  ·exact sgrread1
 ·intro k C h
  have := lk_mem h
  simp only [tmrread, List.mem_cons, Prod.mk.injEq, List.not_mem_nil, or_false] at this
  rcases this with ⟨rfl, rfl⟩ | ⟨rfl, rfl⟩
  ·exact vcsrread0
  ·exact vcsrread1
 ·intro k C h
  have := lk_mem h
  simp only [tmrread, List.mem_cons, Prod.mk.injEq, List.not_mem_nil, or_false] at this
  rcases this with ⟨rfl, rfl⟩ | ⟨rfl, rfl⟩
  ·exact lnrread0
  ·exact lnrread1
noncomputable section
abbrev TTread : Tab := T oct.Φ cRead.roms []
def tread1 : Cfg := { top := ⟨141, over (opqS 10000 64) [(0, (SV.ptr 0 0)), (4, (SV.int .u64 (IE.var .u64 1000))), (5, (SV.int .i64 (IE.lit 110))), (21, (SV.rom 0 (IE.lit 0) (IE.len (LE.rom 0)) (some (IE.len (LE.rom 0))))), (22, (SV.int .i64 (IE.len (LE.rom 0)))), (23, (SV.int .i64 (IE.var .i64 1001)))], ogt (loopTodo (bodyOf (T oct.Φ [] []) 141) 0), [], false, none⟩, rest := [⟨120, over (opqS 30000 18) [(5, (SV.ptr 0 0))], ogt (callTodo (bodyOf (T oct.Φ [] []) 120) 2 [0, 1, 2, 3, 4, 5]), [], false, none⟩], heap := [(0, .cells [(SV.rom 0 (IE.lit 0) (IE.len (LE.rom 0)) none), (SV.int .i64 (IE.lit 0))] 210)], next := 1, pc := .lit true :: ([] ++ [(BE.le (IE.lit 0) (IE.var .i64 1001)), (BE.le (IE.var .i64 1001) (IE.len (LE.rom 0)))] ++ (.and (.lit true) (.lit true)) :: [.le (.var .i64 1001) (.lit 9)]) }
def tmread : List (Nat × Cfg) := [(0, startF 120 cRead.pat [.lit true]), (1, tread1)]
def selread : Sel := [(141, 1, 1, 1)]
abbrev ereadx1 : IE := IE.cel .u8 (LE.rom 0) (IE.var .i64 1001) 0
abbrev ereadx2 : IE := IE.fn .u64 3 (AL.lst (LE.rom 0) AL.nil)
abbrev ereadx3 : IE := IE.fn .i64 4 (AL.lst (LE.rom 0) AL.nil)
abbrev ereadx4 : IE := IE.fn .i64 5 (AL.lst (LE.rom 0) AL.nil)
abbrev ereadx5 : IE := IE.add (IE.var .i64 1001) (IE.lit 1)
abbrev ereadx0 : IE := IE.bin BinOp.or .u64 (IE.var .u64 1000) (IE.bin BinOp.shl .u64 (IE.bin BinOp.and .u8 ereadx1 (IE.lit 127)) (IE.mul (IE.lit 7) (IE.var .i64 1001)))
def wread0_0 : VW := (VW.cut 1 [(BE.lit true)] (Sx.Sub.mk [(.i64, (1001, (IE.lit 0))), (.u64, (1000, (IE.lit 0)))] [] [] [] [] []))
def vwread0 : List VW := [wread0_0]
abbrev pcread1_0 : List BE := [(BE.lit true), (BE.le (IE.lit 0) (IE.var .i64 1001)), (BE.le (IE.var .i64 1001) (IE.len (LE.rom 0))), (BE.and (BE.lit true) (BE.lit true)), (BE.le (IE.var .i64 1001) (IE.lit 9))]
abbrev pcread1_1 : List BE := ((BE.not (BE.le (IE.len (LE.rom 0)) (IE.var .i64 1001))) :: pcread1_0)
abbrev pcread1_2 : List BE := ((BE.le (IE.var .i64 1001) (IE.lit 0)) :: pcread1_1)
abbrev pcread1_3 : List BE := ((BE.not (BE.le (IE.var .i64 1001) (IE.lit 0))) :: pcread1_1)
abbrev pcread1_4 : List BE := ((BE.not (BE.eq ereadx1 (IE.lit 0))) :: pcread1_3)
abbrev pcread1_5 : List BE := ((BE.eq (IE.var .i64 1001) (IE.lit 9)) :: pcread1_4)
abbrev pcread1_6 : List BE := ((BE.not (BE.eq (IE.var .i64 1001) (IE.lit 9))) :: pcread1_4)
def wread1_0 : VW := (VW.done ((BE.le (IE.len (LE.rom 0)) (IE.var .i64 1001)) :: pcread1_0) (some [(G.i ereadx2 (IE.lit 0)), (G.i ereadx3 (IE.lit 0)), (G.i ereadx4 (IE.lit 110))]))
def wread1_1 : VW := (VW.cut 1 ((BE.le (IE.lit 128) ereadx1) :: pcread1_2) (Sx.Sub.mk [(.i64, (1001, ereadx5)), (.u64, (1000, ereadx0))] [] [] [] [] []))
def wread1_2 : VW := (VW.done ((BE.not (BE.le (IE.lit 128) ereadx1)) :: pcread1_2) (some [(G.i ereadx2 ereadx0), (G.i ereadx3 (IE.add (IE.lit 0) ereadx5)), (G.i ereadx4 (IE.lit 0))]))
def wread1_3 : VW := (VW.done ((BE.eq ereadx1 (IE.lit 0)) :: pcread1_3) (some [(G.i ereadx2 (IE.lit 0)), (G.i ereadx3 (IE.lit 0)), (G.i ereadx4 (IE.lit 111))]))
def wread1_4 : VW := (VW.done ((BE.le ereadx1 (IE.lit 1)) :: pcread1_5) (some [(G.i ereadx2 ereadx0), (G.i ereadx3 (IE.add (IE.lit 0) ereadx5)), (G.i ereadx4 (IE.lit 0))]))
def wread1_5 : VW := (VW.done ((BE.not (BE.le ereadx1 (IE.lit 1))) :: pcread1_5) (some [(G.i ereadx2 (IE.lit 0)), (G.i ereadx3 (IE.lit 0)), (G.i ereadx4 (IE.lit 111))]))
def wread1_6 : VW := (VW.cut 1 ((BE.le (IE.lit 128) ereadx1) :: pcread1_6) (Sx.Sub.mk [(.i64, (1001, ereadx5)), (.u64, (1000, ereadx0))] [] [] [] [] []))
def wread1_7 : VW := (VW.done ((BE.not (BE.le (IE.lit 128) ereadx1)) :: pcread1_6) (some [(G.i ereadx2 ereadx0), (G.i ereadx3 (IE.add (IE.lit 0) ereadx5)), (G.i ereadx4 (IE.lit 0))]))
def vwread1 : List VW := [wread1_0, wread1_1, wread1_2, wread1_3, wread1_4, wread1_5, wread1_6, wread1_7]
def vwread : Nat → List VW
 | 0 => vwread0
 | 1 => vwread1
 | _ => []
end
def invread : Nat → Lt → Prop
 | 1, l => firstP (stopP (l.z.rl 0)) (l.i .i64 1001).toNat = (l.i .i64 1001).toNat ∧ (l.i .u64 1000) = valI (l.z.rl 0) (l.i .i64 1001).toNat
 | _, _ => True
def msread : Nat → Lt → Nat
 | 0, l => (l.z.rl 0).length + 1
 | 1, l => (l.z.rl 0).length - (l.i .i64 1001).toNat
 | _, _ => 0
theorem vcread0_0 : VC TTread invread msread 0 (startF 120 cRead.pat [.lit true]) wread0_0 := by
 intro ρ kn hi hp
 have hF : ρ.z.F = oct.Φ := kn.F
 simp only [h_nil, h_cons, d_le, d_eq, d_not, d_var, d_lit, d_cel, d_leq, d_fn, d_and, d_iff, IE.den, LE.den, AL.den, lenV, true_and, and_true, hF, pi2, pi3, pi4, pi5, pi6, pi7] at hp
 refine (show (firstP (stopP (ρ.z.rl 0)) (0 : Int).toNat = (0 : Int).toNat ∧ (0 : Int) = valI (ρ.z.rl 0) (0 : Int).toNat) ∧ (((ρ.z.rl 0).length - (0 : Int).toNat : Nat) < (ρ.z.rl 0).length + 1) from ?_)
 exact ⟨⟨rfl, rfl⟩, by omega⟩
def ivread1 (ρ : Rho) : Prop := firstP (stopP (ρ.z.rl 0)) (ρ.i .i64 1001).toNat = (ρ.i .i64 1001).toNat ∧ (ρ.i .u64 1000) = valI (ρ.z.rl 0) (ρ.i .i64 1001).toNat
theorem vcgread1_1 : VC TTread invread msread 1 tread1 wread1_2 ∧ VC TTread invread msread 1 tread1 wread1_4 ∧ VC TTread invread msread 1 tread1 wread1_7 := by
  refine ⟨?_, ?_, ?_⟩
  all_goals
    intro ρ kn hi hp
    have hi : ivread1 ρ := hi
    unfold ivread1 at hi
    have hF : ρ.z.F = oct.Φ := kn.F
    simp only [h_nil, h_cons, d_le, d_eq, d_not, d_var, d_lit, d_cel, d_leq, d_fn, d_and, d_iff, IE.den, LE.den, AL.den, lenV, true_and, and_true, hF, pi2, pi3, pi4, pi5, pi6, pi7] at hp
    have p1 := And.left hp
    replace hp := And.right hp
    repeat (have _ := And.left hp; replace hp := And.right hp)
    refine all_cons (show (clampK .u64 (ρ.z.F.i 3 [.lst (ρ.z.rl 0)])) = (binI BinOp.or .u64 (ρ.i .u64 1000) (binI BinOp.shl .u64 (binI BinOp.and .u8 (clampK .u8 (intV (celV (ρ.z.rl 0) (ρ.i .i64 1001) 0))) (127 : Int)) ((7 : Int) * (ρ.i .i64 1001)))) from ?_) (all_cons (show (clampK .i64 (ρ.z.F.i 4 [.lst (ρ.z.rl 0)])) = ((0 : Int) + ((ρ.i .i64 1001) + (1 : Int))) from ?_) (all_cons (show (clampK .i64 (ρ.z.F.i 5 [.lst (ρ.z.rl 0)])) = (0 : Int) from ?_) (all_nil)))
    all_goals try simp only [hF, pi2, pi3, pi4, pi5, pi6, pi7]
    all_goals
      obtain ⟨h1, h2⟩ := hi
      first
        | (have k := r_end (R := ρ.z.rl 0) (i := ρ.i .i64 1001) (by omega) (by omega) h1
           obtain ⟨a, b, c⟩ := k
           first | (rw [a]; rfl) | (rw [b]; rfl) | (rw [c]; rfl))
        | (have k := r_bad (R := ρ.z.rl 0) (i := ρ.i .i64 1001) (by omega) (by omega) h1 (bad_t (by omega) (by omega))
           obtain ⟨a, b, c⟩ := k
           first | (rw [a]; rfl) | (rw [b]; rfl) | (rw [c]; rfl))
        | (have hb := bad_f (R := ρ.z.rl 0) (i := ρ.i .i64 1001) (by omega) (by omega) (by omega)
           have k := r_ok (R := ρ.z.rl 0) (i := ρ.i .i64 1001) (by omega) (by omega) h1 hb (by omega)
           obtain ⟨a, b, c⟩ := k
           first
             | (rw [a, val_in (by omega) h1 hb, h2]; exact (read_v (by omega) h1 hb).symm)
             | (rw [b, clampS (by omega) (by omega)]; done)
             | (rw [b, clampS (by omega) (by omega)]; omega)
             | (rw [c]; rfl))
theorem vcread1_0 : VC TTread invread msread 1 tread1 wread1_0 := by
  intro ρ kn hi hp
  have hi : ivread1 ρ := hi
  unfold ivread1 at hi
  have hF : ρ.z.F = oct.Φ := kn.F
  simp only [h_nil, h_cons, d_le, d_eq, d_not, d_var, d_lit, d_cel, d_leq, d_fn, d_and, d_iff, IE.den, LE.den, AL.den, lenV, true_and, and_true, hF, pi2, pi3, pi4, pi5, pi6, pi7] at hp
  obtain ⟨p1, p2, p3, p4⟩ := hp
  refine all_cons (show (clampK .u64 (ρ.z.F.i 3 [.lst (ρ.z.rl 0)])) = (0 : Int) from ?_) (all_cons (show (clampK .i64 (ρ.z.F.i 4 [.lst (ρ.z.rl 0)])) = (0 : Int) from ?_) (all_cons (show (clampK .i64 (ρ.z.F.i 5 [.lst (ρ.z.rl 0)])) = (110 : Int) from ?_) (all_nil)))
  all_goals try simp only [hF, pi2, pi3, pi4, pi5, pi6, pi7]
  all_goals
    obtain ⟨h1, h2⟩ := hi
    first
      | (have k := r_end (R := ρ.z.rl 0) (i := ρ.i .i64 1001) (by omega) (by omega) h1
         obtain ⟨a, b, c⟩ := k
         first | (rw [a]; rfl) | (rw [b]; rfl) | (rw [c]; rfl))
      | (have k := r_bad (R := ρ.z.rl 0) (i := ρ.i .i64 1001) (by omega) (by omega) h1 (bad_t (by omega) (by omega))
         obtain ⟨a, b, c⟩ := k
         first | (rw [a]; rfl) | (rw [b]; rfl) | (rw [c]; rfl))
      | (have hb := bad_f (R := ρ.z.rl 0) (i := ρ.i .i64 1001) (by omega) (by omega) (by omega)
         have k := r_ok (R := ρ.z.rl 0) (i := ρ.i .i64 1001) (by omega) (by omega) h1 hb (by omega)
         obtain ⟨a, b, c⟩ := k
         first
           | (rw [a, val_in (by omega) h1 hb, h2]; exact (read_v (by omega) h1 hb).symm)
           | (rw [b, clampS (by omega) (by omega)]; done)
           | (rw [b, clampS (by omega) (by omega)]; omega)
           | (rw [c]; rfl))
theorem vcread1_1 : VC TTread invread msread 1 tread1 wread1_1 := by
 intro ρ kn hi hp
 have hi : ivread1 ρ := hi
 unfold ivread1 at hi
 have hF : ρ.z.F = oct.Φ := kn.F
 simp only [h_nil, h_cons, d_le, d_eq, d_not, d_var, d_lit, d_cel, d_leq, d_fn, d_and, d_iff, IE.den, LE.den, AL.den, lenV, true_and, and_true, hF, pi2, pi3, pi4, pi5, pi6, pi7] at hp
 obtain ⟨p1, p2, p3, p4, p5, p6⟩ := hp
 refine (show (firstP (stopP (ρ.z.rl 0)) ((ρ.i .i64 1001) + (1 : Int)).toNat = ((ρ.i .i64 1001) + (1 : Int)).toNat ∧ (binI BinOp.or .u64 (ρ.i .u64 1000) (binI BinOp.shl .u64 (binI BinOp.and .u8 (clampK .u8 (intV (celV (ρ.z.rl 0) (ρ.i .i64 1001) 0))) (127 : Int)) ((7 : Int) * (ρ.i .i64 1001)))) = valI (ρ.z.rl 0) ((ρ.i .i64 1001) + (1 : Int)).toNat) ∧ (((ρ.z.rl 0).length - ((ρ.i .i64 1001) + (1 : Int)).toNat : Nat) < (ρ.z.rl 0).length - (ρ.i .i64 1001).toNat) from ?_)
 obtain ⟨h1, h2⟩ := hi
 rw [h2]
 have hb := bad_f (R := ρ.z.rl 0) (i := ρ.i .i64 1001) (by omega) (by omega) (by omega)
 exact ⟨⟨go_on (by omega) h1 hb (by assumption), read_v (by omega) h1 hb⟩, by omega⟩
theorem vcread1_3 : VC TTread invread msread 1 tread1 wread1_3 := by
  intro ρ kn hi hp
  have hi : ivread1 ρ := hi
  unfold ivread1 at hi
  have hF : ρ.z.F = oct.Φ := kn.F
  simp only [h_nil, h_cons, d_le, d_eq, d_not, d_var, d_lit, d_cel, d_leq, d_fn, d_and, d_iff, IE.den, LE.den, AL.den, lenV, true_and, and_true, hF, pi2, pi3, pi4, pi5, pi6, pi7] at hp
  obtain ⟨p1, p2, p3, p4, p5, p6⟩ := hp
  refine all_cons (show (clampK .u64 (ρ.z.F.i 3 [.lst (ρ.z.rl 0)])) = (0 : Int) from ?_) (all_cons (show (clampK .i64 (ρ.z.F.i 4 [.lst (ρ.z.rl 0)])) = (0 : Int) from ?_) (all_cons (show (clampK .i64 (ρ.z.F.i 5 [.lst (ρ.z.rl 0)])) = (111 : Int) from ?_) (all_nil)))
  all_goals try simp only [hF, pi2, pi3, pi4, pi5, pi6, pi7]
  all_goals
    obtain ⟨h1, h2⟩ := hi
    first
      | (have k := r_end (R := ρ.z.rl 0) (i := ρ.i .i64 1001) (by omega) (by omega) h1
         obtain ⟨a, b, c⟩ := k
         first | (rw [a]; rfl) | (rw [b]; rfl) | (rw [c]; rfl))
      | (have k := r_bad (R := ρ.z.rl 0) (i := ρ.i .i64 1001) (by omega) (by omega) h1 (bad_t (by omega) (by omega))
         obtain ⟨a, b, c⟩ := k
         first | (rw [a]; rfl) | (rw [b]; rfl) | (rw [c]; rfl))
      | (have hb := bad_f (R := ρ.z.rl 0) (i := ρ.i .i64 1001) (by omega) (by omega) (by omega)
         have k := r_ok (R := ρ.z.rl 0) (i := ρ.i .i64 1001) (by omega) (by omega) h1 hb (by omega)
         obtain ⟨a, b, c⟩ := k
         first
           | (rw [a, val_in (by omega) h1 hb, h2]; exact (read_v (by omega) h1 hb).symm)
           | (rw [b, clampS (by omega) (by omega)]; done)
           | (rw [b, clampS (by omega) (by omega)]; omega)
           | (rw [c]; rfl))
theorem vcread1_5 : VC TTread invread msread 1 tread1 wread1_5 := by
  intro ρ kn hi hp
  have hi : ivread1 ρ := hi
  unfold ivread1 at hi
  have hF : ρ.z.F = oct.Φ := kn.F
  simp only [h_nil, h_cons, d_le, d_eq, d_not, d_var, d_lit, d_cel, d_leq, d_fn, d_and, d_iff, IE.den, LE.den, AL.den, lenV, true_and, and_true, hF, pi2, pi3, pi4, pi5, pi6, pi7] at hp
  obtain ⟨p1, p2, p3, p4, p5, p6, p7, p8⟩ := hp
  refine all_cons (show (clampK .u64 (ρ.z.F.i 3 [.lst (ρ.z.rl 0)])) = (0 : Int) from ?_) (all_cons (show (clampK .i64 (ρ.z.F.i 4 [.lst (ρ.z.rl 0)])) = (0 : Int) from ?_) (all_cons (show (clampK .i64 (ρ.z.F.i 5 [.lst (ρ.z.rl 0)])) = (111 : Int) from ?_) (all_nil)))
  all_goals try simp only [hF, pi2, pi3, pi4, pi5, pi6, pi7]
  all_goals
    obtain ⟨h1, h2⟩ := hi
    first
      | (have k := r_end (R := ρ.z.rl 0) (i := ρ.i .i64 1001) (by omega) (by omega) h1
         obtain ⟨a, b, c⟩ := k
         first | (rw [a]; rfl) | (rw [b]; rfl) | (rw [c]; rfl))
      | (have k := r_bad (R := ρ.z.rl 0) (i := ρ.i .i64 1001) (by omega) (by omega) h1 (bad_t (by omega) (by omega))
         obtain ⟨a, b, c⟩ := k
         first | (rw [a]; rfl) | (rw [b]; rfl) | (rw [c]; rfl))
      | (have hb := bad_f (R := ρ.z.rl 0) (i := ρ.i .i64 1001) (by omega) (by omega) (by omega)
         have k := r_ok (R := ρ.z.rl 0) (i := ρ.i .i64 1001) (by omega) (by omega) h1 hb (by omega)
         obtain ⟨a, b, c⟩ := k
         first
           | (rw [a, val_in (by omega) h1 hb, h2]; exact (read_v (by omega) h1 hb).symm)
           | (rw [b, clampS (by omega) (by omega)]; done)
           | (rw [b, clampS (by omega) (by omega)]; omega)
           | (rw [c]; rfl))
theorem vcread1_6 : VC TTread invread msread 1 tread1 wread1_6 := by
 intro ρ kn hi hp
 have hi : ivread1 ρ := hi
 unfold ivread1 at hi
 have hF : ρ.z.F = oct.Φ := kn.F
 simp only [h_nil, h_cons, d_le, d_eq, d_not, d_var, d_lit, d_cel, d_leq, d_fn, d_and, d_iff, IE.den, LE.den, AL.den, lenV, true_and, and_true, hF, pi2, pi3, pi4, pi5, pi6, pi7] at hp
 obtain ⟨p1, p2, p3, p4, p5, p6, p7, p8⟩ := hp
 refine (show (firstP (stopP (ρ.z.rl 0)) ((ρ.i .i64 1001) + (1 : Int)).toNat = ((ρ.i .i64 1001) + (1 : Int)).toNat ∧ (binI BinOp.or .u64 (ρ.i .u64 1000) (binI BinOp.shl .u64 (binI BinOp.and .u8 (clampK .u8 (intV (celV (ρ.z.rl 0) (ρ.i .i64 1001) 0))) (127 : Int)) ((7 : Int) * (ρ.i .i64 1001)))) = valI (ρ.z.rl 0) ((ρ.i .i64 1001) + (1 : Int)).toNat) ∧ (((ρ.z.rl 0).length - ((ρ.i .i64 1001) + (1 : Int)).toNat : Nat) < (ρ.z.rl 0).length - (ρ.i .i64 1001).toNat) from ?_)
 obtain ⟨h1, h2⟩ := hi
 rw [h2]
 have hb := bad_f (R := ρ.z.rl 0) (i := ρ.i .i64 1001) (by omega) (by omega) (by omega)
 exact ⟨⟨go_on (by omega) h1 hb (by assumption), read_v (by omega) h1 hb⟩, by omega⟩
theorem vcsread0 : ∀ v ∈ vwread 0, VC TTread invread msread 0 (startF 120 cRead.pat [.lit true]) v := all_cons vcread0_0 (all_nil)
theorem okread0 : cfgOk (startF 120 cRead.pat [.lit true]) = true := by kernel_rfl
theorem sgread0 : segL cRead.roms cRead (seg TTread selread 900 tmread (startF 120 cRead.pat [.lit true])) = (true, codesR tmread (views (seg TTread selread 900 tmread (startF 120 cRead.pat [.lit true]))), vwread 0) := by kernel_rfl
theorem vcsread1 : ∀ v ∈ vwread 1, VC TTread invread msread 1 tread1 v := all_cons vcread1_0 (all_cons vcread1_1 (all_cons vcgread1_1.1 (all_cons vcread1_3 (all_cons vcgread1_1.2.1 (all_cons vcread1_5 (all_cons vcread1_6 (all_cons vcgread1_1.2.2 (all_nil))))))))
theorem okread1 : cfgOk tread1 = true := by kernel_rfl
theorem sgread1 : segL cRead.roms cRead (seg TTread selread 900 tmread tread1) = (true, codesR tmread (views (seg TTread selread 900 tmread tread1)), vwread 1) := by kernel_rfl
theorem lnread0 : ∀ ρ, Known TTread (startF 120 cRead.pat [.lit true]) ρ → invread 0 ρ.lt → Holds ρ (leanOf (Cfg.pc (startF 120 cRead.pat [.lit true]))) := by
 intro ρ _ _
 exact (show Holds ρ [] from fun p hp => by cases hp)
theorem lnread1 : ∀ ρ, Known TTread tread1 ρ → invread 1 ρ.lt → Holds ρ (leanOf (Cfg.pc tread1)) := by
 intro ρ kn hi
 refine (show Holds ρ [.le (.var .i64 1001) (.lit 9)] from ?_)
 have hi : firstP (stopP (ρ.z.rl 0)) (ρ.i .i64 1001).toNat = (ρ.i .i64 1001).toNat ∧ (ρ.i .u64 1000) = valI (ρ.z.rl 0) (ρ.i .i64 1001).toNat := hi
 have hF : ρ.z.F = oct.Φ := kn.F
 simp only [h_nil, h_cons, d_le, d_eq, d_not, d_var, d_lit, d_cel, d_leq, d_fn, d_and, d_iff, IE.den, LE.den, AL.den, lenV, true_and, and_true, hF, pi2, pi3, pi4, pi5, pi6, pi7]
 obtain ⟨h1, h2⟩ := hi
 have := run9 h1
 omega
theorem told_read : Sx.Told oct.Φ cRead := by
 refine told_of (cs := []) (all_nil) (sel := selread) 900 tmread invread msread vwread 0 (pc0 := [.lit true]) (by kernel_rfl) (by kernel_rfl) (by kernel_rfl) post_read ?_ ?_ ?_ rfl (fun ρ _ _ => by simp [Holds, BE.den]) (fun _ _ _ _ => trivial) ?_
 ·intro k C h
  have := lk_mem h
  simp only [tmread, List.mem_cons, Prod.mk.injEq, List.not_mem_nil, or_false] at this
  rcases this with ⟨rfl, rfl⟩ | ⟨rfl, rfl⟩
  ·exact okread0
  ·exact okread1
 ·intro k C h
  have := lk_mem h
  simp only [tmread, List.mem_cons, Prod.mk.injEq, List.not_mem_nil, or_false] at this
  rcases this with ⟨rfl, rfl⟩ | ⟨rfl, rfl⟩
  ·exact sgread0
  ·exact sgread1
 ·intro k C h
  have := lk_mem h
  simp only [tmread, List.mem_cons, Prod.mk.injEq, List.not_mem_nil, or_false] at this
  rcases this with ⟨rfl, rfl⟩ | ⟨rfl, rfl⟩
  ·exact vcsread0
  ·exact vcsread1
 ·intro k C h
  have := lk_mem h
  simp only [tmread, List.mem_cons, Prod.mk.injEq, List.not_mem_nil, or_false] at this
  rcases this with ⟨rfl, rfl⟩ | ⟨rfl, rfl⟩
  ·exact lnread0
  ·exact lnread1
end Go.Proofs.Ythenenacmiiphaa.oct
