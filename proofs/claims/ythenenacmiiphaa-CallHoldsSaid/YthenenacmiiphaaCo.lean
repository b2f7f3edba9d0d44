/- Layer call: no ask's bytes begin another one's. No condition. -/
import Derived.Test.YthenenacmiiphaaCj
import Derived.Test.YthenenacmiiphaaCl
import Derived.Test.YthenenacmiiphaaCe
import Derived.Test.YthenenacmiiphaaCf
import Derived.Test.YthenenacmiiphaaCg
set_option linter.unusedVariables false
set_option linter.unusedSimpArgs false
set_option linter.deprecated false
namespace Go.Proofs.Ythenenacmiiphaa.oct
open Go Go.Proofs.Ythenenacmiiphaa.Sx
theorem fA {ρ : Rho} (hρ : ρ.Ok) (q : begB (askL (ρ.i .i64 4) (ρ.i .i64 5) (ρ.i .i64 6) (ρ.i .i64 7) (ρ.i .i64 8) (ρ.i .i64 9) (ρ.i .i64 10) (ρ.i .i64 11)) (askL (ρ.i .i64 12) (ρ.i .i64 13) (ρ.i .i64 14) (ρ.i .i64 15) (ρ.i .i64 16) (ρ.i .i64 17) (ρ.i .i64 18) (ρ.i .i64 19)) = true) (a : askR (ρ.i .i64 1) (ρ.i .i64 2) (ρ.i .i64 3) (ρ.i .i64 4) (ρ.i .i64 5) (ρ.i .i64 6) (ρ.i .i64 7) (ρ.i .i64 8) (ρ.i .i64 9) (ρ.i .i64 10) (ρ.i .i64 11) = true) (b : askR (ρ.i .i64 1) (ρ.i .i64 2) (ρ.i .i64 3) (ρ.i .i64 12) (ρ.i .i64 13) (ρ.i .i64 14) (ρ.i .i64 15) (ρ.i .i64 16) (ρ.i .i64 17) (ρ.i .i64 18) (ρ.i .i64 19) = true) : ρ.i .i64 4 = ρ.i .i64 12 ∧ ρ.i .i64 5 = ρ.i .i64 13 ∧ ρ.i .i64 6 = ρ.i .i64 14 ∧ ρ.i .i64 7 = ρ.i .i64 15 ∧ ρ.i .i64 8 = ρ.i .i64 16 ∧ ρ.i .i64 9 = ρ.i .i64 17 ∧ ρ.i .i64 10 = ρ.i .i64 18 ∧ ρ.i .i64 11 = ρ.i .i64 19 :=
 (beg_ex q).elim fun _ h => h.elim fun _ h => ask_pre a b (i64_rng hρ 11) (i64_rng hρ 19) h
theorem fC {ρ : Rho} (hρ : ρ.Ok) (q : begB (ansL (ρ.i .i64 20) (ρ.i .i64 21) (ρ.i .i64 22) (ρ.i .i64 23) (ρ.i .i64 24)) (ansL (ρ.i .i64 25) (ρ.i .i64 26) (ρ.i .i64 27) (ρ.i .i64 28) (ρ.i .i64 29)) = true) (a : ansR (ρ.i .i64 1) (ρ.i .i64 2) (ρ.i .i64 3) (ρ.i .i64 20) (ρ.i .i64 21) (ρ.i .i64 22) (ρ.i .i64 23) = true) (b : ansR (ρ.i .i64 1) (ρ.i .i64 2) (ρ.i .i64 3) (ρ.i .i64 25) (ρ.i .i64 26) (ρ.i .i64 27) (ρ.i .i64 28) = true) : ρ.i .i64 20 = ρ.i .i64 25 ∧ ρ.i .i64 21 = ρ.i .i64 26 ∧ ρ.i .i64 22 = ρ.i .i64 27 ∧ ρ.i .i64 23 = ρ.i .i64 28 ∧ ρ.i .i64 24 = ρ.i .i64 29 :=
 (beg_ex q).elim fun _ h => h.elim fun _ h => ans_pre a b (i64_rng hρ 24) (i64_rng hρ 29) h
theorem fB {ρ : Rho} (q : ¬ begB (askL (ρ.i .i64 4) (ρ.i .i64 5) (ρ.i .i64 6) (ρ.i .i64 7) (ρ.i .i64 8) (ρ.i .i64 9) (ρ.i .i64 10) (ρ.i .i64 11)) (askL (ρ.i .i64 12) (ρ.i .i64 13) (ρ.i .i64 14) (ρ.i .i64 15) (ρ.i .i64 16) (ρ.i .i64 17) (ρ.i .i64 18) (ρ.i .i64 19)) = true) (e0 : ρ.i .i64 4 = ρ.i .i64 12) (e1 : ρ.i .i64 5 = ρ.i .i64 13) (e2 : ρ.i .i64 6 = ρ.i .i64 14) (e3 : ρ.i .i64 7 = ρ.i .i64 15) (e4 : ρ.i .i64 8 = ρ.i .i64 16) (e5 : ρ.i .i64 9 = ρ.i .i64 17) (e6 : ρ.i .i64 10 = ρ.i .i64 18) (e7 : ρ.i .i64 11 = ρ.i .i64 19) : False := by
 rw [e0, e1, e2, e3, e4, e5, e6, e7] at q
 exact q (beg_self _)
theorem fD {ρ : Rho} (q : ¬ begB (ansL (ρ.i .i64 20) (ρ.i .i64 21) (ρ.i .i64 22) (ρ.i .i64 23) (ρ.i .i64 24)) (ansL (ρ.i .i64 25) (ρ.i .i64 26) (ρ.i .i64 27) (ρ.i .i64 28) (ρ.i .i64 29)) = true) (e0 : ρ.i .i64 20 = ρ.i .i64 25) (e1 : ρ.i .i64 21 = ρ.i .i64 26) (e2 : ρ.i .i64 22 = ρ.i .i64 27) (e3 : ρ.i .i64 23 = ρ.i .i64 28) (e4 : ρ.i .i64 24 = ρ.i .i64 29) : False := by
 rw [e0, e1, e2, e3, e4] at q
 exact q (beg_self _)
def memBE (c : BE) : List BE → Bool
 | [] => false
 | p :: l => if BE.beq p c then true else memBE c l
def subBE : List BE → List BE → Bool
 | [], _ => true
 | c :: cs, pc => if memBE c pc then subBE cs pc else false
theorem memBE_ok {ρ : Rho} {c : BE} : ∀ {pc : List BE}, memBE c pc = true → Holds ρ pc → c.den ρ = true
 | [], h, _ => by cases h
 | p :: l, h, hp => by
  simp only [memBE] at h
  rw [h_cons] at hp
  split at h
  ·rename_i e
   rw [← BE.beq_eq _ _ e]; exact hp.1
  ·exact memBE_ok h hp.2
theorem has_ok {ρ : Rho} : ∀ {cs pc : List BE}, subBE cs pc = true → Holds ρ pc → Holds ρ cs
 | [], _, _, _ => by rw [h_nil]; trivial
 | c :: cs, pc, h, hp => by
  simp only [subBE] at h
  split at h
  ·rename_i e
   rw [h_cons]; exact ⟨memBE_ok e hp, has_ok h hp⟩
  ·cases h
noncomputable section
abbrev TTh : Tab := T oct.Φ cHolds.roms [cWorks19, cBegins, cBytes, cBytesN, cTold, cToldN]
abbrev th0 : LE := LE.fn 9 (AL.int .i64 (IE.var .i64 25) (AL.int .i64 (IE.var .i64 26) (AL.int .i64 (IE.var .i64 27) (AL.int .i64 (IE.var .i64 28) (AL.int .i64 (IE.var .i64 29) AL.nil)))))
abbrev th1 : BE := BE.fn 12 (AL.int .i64 (IE.var .i64 1) (AL.int .i64 (IE.var .i64 2) (AL.int .i64 (IE.var .i64 3) (AL.int .i64 (IE.var .i64 25) (AL.int .i64 (IE.var .i64 26) (AL.int .i64 (IE.var .i64 27) (AL.int .i64 (IE.var .i64 28) AL.nil)))))))
abbrev th2 : LE := LE.fn 9 (AL.int .i64 (IE.var .i64 20) (AL.int .i64 (IE.var .i64 21) (AL.int .i64 (IE.var .i64 22) (AL.int .i64 (IE.var .i64 23) (AL.int .i64 (IE.var .i64 24) AL.nil)))))
abbrev th3 : BE := BE.fn 12 (AL.int .i64 (IE.var .i64 1) (AL.int .i64 (IE.var .i64 2) (AL.int .i64 (IE.var .i64 3) (AL.int .i64 (IE.var .i64 20) (AL.int .i64 (IE.var .i64 21) (AL.int .i64 (IE.var .i64 22) (AL.int .i64 (IE.var .i64 23) AL.nil)))))))
abbrev th4 : AL := AL.int .i64 (IE.var .i64 12) (AL.int .i64 (IE.var .i64 13) (AL.int .i64 (IE.var .i64 14) (AL.int .i64 (IE.var .i64 15) (AL.int .i64 (IE.var .i64 16) (AL.int .i64 (IE.var .i64 17) (AL.int .i64 (IE.var .i64 18) (AL.int .i64 (IE.var .i64 19) AL.nil)))))))
abbrev th5 : BE := BE.eq (IE.var .i64 20) (IE.var .i64 25)
abbrev th6 : BE := BE.eq (IE.var .i64 21) (IE.var .i64 26)
abbrev th7 : BE := BE.eq (IE.var .i64 22) (IE.var .i64 27)
abbrev th8 : BE := BE.eq (IE.var .i64 23) (IE.var .i64 28)
abbrev th9 : BE := BE.eq (IE.var .i64 24) (IE.var .i64 29)
abbrev th10 : AL := AL.int .i64 (IE.var .i64 4) (AL.int .i64 (IE.var .i64 5) (AL.int .i64 (IE.var .i64 6) (AL.int .i64 (IE.var .i64 7) (AL.int .i64 (IE.var .i64 8) (AL.int .i64 (IE.var .i64 9) (AL.int .i64 (IE.var .i64 10) (AL.int .i64 (IE.var .i64 11) AL.nil)))))))
abbrev th11 : BE := BE.fn 13 (AL.lst th2 (AL.lst th0 AL.nil))
abbrev th12 : BE := BE.le (IE.len th0) (IE.lit 50)
abbrev th13 : BE := BE.fn 11 (AL.int .i64 (IE.var .i64 1) (AL.int .i64 (IE.var .i64 2) (AL.int .i64 (IE.var .i64 3) th4)))
abbrev th14 : BE := BE.le (IE.len th2) (IE.lit 50)
abbrev th15 : BE := BE.eq (IE.var .i64 10) (IE.var .i64 18)
abbrev th16 : BE := BE.eq (IE.var .i64 11) (IE.var .i64 19)
abbrev th17 : BE := BE.eq (IE.var .i64 4) (IE.var .i64 12)
abbrev th18 : BE := BE.eq (IE.var .i64 5) (IE.var .i64 13)
abbrev th19 : BE := BE.eq (IE.var .i64 6) (IE.var .i64 14)
abbrev th20 : BE := BE.eq (IE.var .i64 7) (IE.var .i64 15)
abbrev th21 : BE := BE.eq (IE.var .i64 8) (IE.var .i64 16)
abbrev th22 : BE := BE.eq (IE.var .i64 9) (IE.var .i64 17)
abbrev p_0 : List BE := [(BE.lit true)]
abbrev p_1 : List BE := ((BE.not (BE.fn 11 (AL.int .i64 (IE.var .i64 1) (AL.int .i64 (IE.var .i64 2) (AL.int .i64 (IE.var .i64 3) th10))))) :: p_0)
abbrev p_2 : List BE := ((BE.not th13) :: p_1)
abbrev p_3 : List BE := ((BE.le (IE.lit 1) (IE.len (LE.fn 7 th10))) :: (BE.le (IE.len (LE.fn 7 th10)) (IE.lit 50)) :: (BE.fn 11 (AL.int .i64 (IE.var .i64 1) (AL.int .i64 (IE.var .i64 2) (AL.int .i64 (IE.var .i64 3) th10)))) :: p_0)
abbrev p_4 : List BE := ((BE.not th3) :: p_2)
abbrev p_5 : List BE := ((BE.not th13) :: p_3)
abbrev p_6 : List BE := ((BE.le (IE.lit 1) (IE.len (LE.fn 7 th4))) :: (BE.le (IE.len (LE.fn 7 th4)) (IE.lit 50)) :: th13 :: p_1)
abbrev p_7 : List BE := ((BE.not th3) :: p_5)
abbrev p_8 : List BE := ((BE.not th3) :: p_6)
abbrev p_9 : List BE := ((BE.le (IE.lit 1) (IE.len th2)) :: th14 :: th3 :: p_2)
abbrev p_10 : List BE := ((BE.le (IE.lit 1) (IE.len (LE.fn 7 th4))) :: (BE.le (IE.len (LE.fn 7 th4)) (IE.lit 50)) :: th13 :: p_3)
abbrev p_11 : List BE := ((BE.fn 13 (AL.lst (LE.fn 7 th10) (AL.lst (LE.fn 7 th4) AL.nil))) :: p_10)
abbrev p_12 : List BE := ((BE.not (BE.fn 13 (AL.lst (LE.fn 7 th10) (AL.lst (LE.fn 7 th4) AL.nil)))) :: p_10)
abbrev p_13 : List BE := ((BE.le (IE.lit 1) (IE.len th2)) :: th14 :: th3 :: p_5)
abbrev p_14 : List BE := ((BE.le (IE.lit 1) (IE.len th2)) :: th14 :: th3 :: p_6)
abbrev p_15 : List BE := (th17 :: p_11)
abbrev p_16 : List BE := (th17 :: p_12)
abbrev p_17 : List BE := ((BE.not th17) :: p_12)
abbrev p_18 : List BE := ((BE.le (IE.lit 1) (IE.len th0)) :: th12 :: th1 :: p_9)
abbrev p_19 : List BE := (th18 :: p_15)
abbrev p_20 : List BE := (th18 :: p_16)
abbrev p_21 : List BE := ((BE.not th18) :: p_16)
abbrev p_22 : List BE := ((BE.not th3) :: p_17)
abbrev p_23 : List BE := (th11 :: p_18)
abbrev p_24 : List BE := ((BE.not th11) :: p_18)
abbrev p_25 : List BE := (th19 :: p_19)
abbrev p_26 : List BE := (th19 :: p_20)
abbrev p_27 : List BE := ((BE.not th19) :: p_20)
abbrev p_28 : List BE := ((BE.not th3) :: p_21)
abbrev p_29 : List BE := ((BE.le (IE.lit 1) (IE.len th0)) :: th12 :: th1 :: p_13)
abbrev p_30 : List BE := ((BE.le (IE.lit 1) (IE.len th0)) :: th12 :: th1 :: p_14)
abbrev p_31 : List BE := (th5 :: p_23)
abbrev p_32 : List BE := (th5 :: p_24)
abbrev p_33 : List BE := (th20 :: p_25)
abbrev p_34 : List BE := (th20 :: p_26)
abbrev p_35 : List BE := ((BE.not th20) :: p_26)
abbrev p_36 : List BE := ((BE.not th3) :: p_27)
abbrev p_37 : List BE := ((BE.le (IE.lit 1) (IE.len th2)) :: th14 :: th3 :: p_17)
abbrev p_38 : List BE := (th11 :: p_29)
abbrev p_39 : List BE := ((BE.not th11) :: p_29)
abbrev p_40 : List BE := (th11 :: p_30)
abbrev p_41 : List BE := ((BE.not th11) :: p_30)
abbrev p_42 : List BE := (th6 :: p_31)
abbrev p_43 : List BE := (th6 :: p_32)
abbrev p_44 : List BE := (th21 :: p_33)
abbrev p_45 : List BE := (th21 :: p_34)
abbrev p_46 : List BE := ((BE.not th21) :: p_34)
abbrev p_47 : List BE := ((BE.not th3) :: p_35)
abbrev p_48 : List BE := ((BE.le (IE.lit 1) (IE.len th2)) :: th14 :: th3 :: p_21)
abbrev p_49 : List BE := (th5 :: p_38)
abbrev p_50 : List BE := (th5 :: p_39)
abbrev p_51 : List BE := (th5 :: p_40)
abbrev p_52 : List BE := (th5 :: p_41)
abbrev p_53 : List BE := (th7 :: p_42)
abbrev p_54 : List BE := (th7 :: p_43)
abbrev p_55 : List BE := (th22 :: p_44)
abbrev p_56 : List BE := (th22 :: p_45)
abbrev p_57 : List BE := ((BE.not th22) :: p_45)
abbrev p_58 : List BE := ((BE.not th3) :: p_46)
abbrev p_59 : List BE := ((BE.le (IE.lit 1) (IE.len th2)) :: th14 :: th3 :: p_27)
abbrev p_60 : List BE := (th6 :: p_49)
abbrev p_61 : List BE := (th6 :: p_50)
abbrev p_62 : List BE := (th6 :: p_51)
abbrev p_63 : List BE := (th6 :: p_52)
abbrev p_64 : List BE := (th8 :: p_53)
abbrev p_65 : List BE := (th8 :: p_54)
abbrev p_66 : List BE := (th15 :: p_55)
abbrev p_67 : List BE := (th15 :: p_56)
abbrev p_68 : List BE := ((BE.not th15) :: p_56)
abbrev p_69 : List BE := ((BE.not th3) :: p_57)
abbrev p_70 : List BE := ((BE.le (IE.lit 1) (IE.len th2)) :: th14 :: th3 :: p_35)
abbrev p_71 : List BE := ((BE.le (IE.lit 1) (IE.len th0)) :: th12 :: th1 :: p_37)
abbrev p_72 : List BE := (th7 :: p_60)
abbrev p_73 : List BE := (th7 :: p_61)
abbrev p_74 : List BE := (th7 :: p_62)
abbrev p_75 : List BE := (th7 :: p_63)
abbrev p_76 : List BE := (th16 :: p_66)
abbrev p_77 : List BE := ((BE.not th16) :: p_67)
abbrev p_78 : List BE := ((BE.not th3) :: p_68)
abbrev p_79 : List BE := ((BE.le (IE.lit 1) (IE.len th2)) :: th14 :: th3 :: p_46)
abbrev p_80 : List BE := ((BE.le (IE.lit 1) (IE.len th0)) :: th12 :: th1 :: p_48)
abbrev p_81 : List BE := (th11 :: p_71)
abbrev p_82 : List BE := ((BE.not th11) :: p_71)
abbrev p_83 : List BE := (th8 :: p_72)
abbrev p_84 : List BE := (th8 :: p_73)
abbrev p_85 : List BE := (th8 :: p_74)
abbrev p_86 : List BE := (th8 :: p_75)
abbrev p_87 : List BE := ((BE.not th3) :: p_76)
abbrev p_88 : List BE := ((BE.not th3) :: p_77)
abbrev p_89 : List BE := ((BE.le (IE.lit 1) (IE.len th2)) :: th14 :: th3 :: p_57)
abbrev p_90 : List BE := ((BE.le (IE.lit 1) (IE.len th0)) :: th12 :: th1 :: p_59)
abbrev p_91 : List BE := (th11 :: p_80)
abbrev p_92 : List BE := ((BE.not th11) :: p_80)
abbrev p_93 : List BE := (th5 :: p_81)
abbrev p_94 : List BE := (th5 :: p_82)
abbrev p_95 : List BE := ((BE.le (IE.lit 1) (IE.len th2)) :: th14 :: th3 :: p_68)
abbrev p_96 : List BE := ((BE.le (IE.lit 1) (IE.len th0)) :: th12 :: th1 :: p_70)
abbrev p_97 : List BE := (th11 :: p_90)
abbrev p_98 : List BE := ((BE.not th11) :: p_90)
abbrev p_99 : List BE := (th5 :: p_91)
abbrev p_100 : List BE := (th5 :: p_92)
abbrev p_101 : List BE := (th6 :: p_93)
abbrev p_102 : List BE := (th6 :: p_94)
abbrev p_103 : List BE := ((BE.le (IE.lit 1) (IE.len th2)) :: th14 :: th3 :: p_76)
abbrev p_104 : List BE := ((BE.le (IE.lit 1) (IE.len th2)) :: th14 :: th3 :: p_77)
abbrev p_105 : List BE := ((BE.le (IE.lit 1) (IE.len th0)) :: th12 :: th1 :: p_79)
abbrev p_106 : List BE := (th11 :: p_96)
abbrev p_107 : List BE := ((BE.not th11) :: p_96)
abbrev p_108 : List BE := (th5 :: p_97)
abbrev p_109 : List BE := (th5 :: p_98)
abbrev p_110 : List BE := (th6 :: p_99)
abbrev p_111 : List BE := (th6 :: p_100)
abbrev p_112 : List BE := (th7 :: p_101)
abbrev p_113 : List BE := (th7 :: p_102)
abbrev p_114 : List BE := ((BE.le (IE.lit 1) (IE.len th0)) :: th12 :: th1 :: p_89)
abbrev p_115 : List BE := (th11 :: p_105)
abbrev p_116 : List BE := ((BE.not th11) :: p_105)
abbrev p_117 : List BE := (th5 :: p_106)
abbrev p_118 : List BE := (th5 :: p_107)
abbrev p_119 : List BE := (th6 :: p_108)
abbrev p_120 : List BE := (th6 :: p_109)
abbrev p_121 : List BE := (th7 :: p_110)
abbrev p_122 : List BE := (th7 :: p_111)
abbrev p_123 : List BE := (th8 :: p_112)
abbrev p_124 : List BE := (th8 :: p_113)
abbrev p_125 : List BE := ((BE.le (IE.lit 1) (IE.len th0)) :: th12 :: th1 :: p_95)
abbrev p_126 : List BE := (th11 :: p_114)
abbrev p_127 : List BE := ((BE.not th11) :: p_114)
abbrev p_128 : List BE := (th5 :: p_115)
abbrev p_129 : List BE := (th5 :: p_116)
abbrev p_130 : List BE := (th6 :: p_117)
abbrev p_131 : List BE := (th6 :: p_118)
abbrev p_132 : List BE := (th7 :: p_119)
abbrev p_133 : List BE := (th7 :: p_120)
abbrev p_134 : List BE := (th8 :: p_121)
abbrev p_135 : List BE := (th8 :: p_122)
abbrev p_136 : List BE := ((BE.le (IE.lit 1) (IE.len th0)) :: th12 :: th1 :: p_103)
abbrev p_137 : List BE := ((BE.le (IE.lit 1) (IE.len th0)) :: th12 :: th1 :: p_104)
abbrev p_138 : List BE := (th11 :: p_125)
abbrev p_139 : List BE := ((BE.not th11) :: p_125)
abbrev p_140 : List BE := (th5 :: p_126)
abbrev p_141 : List BE := (th5 :: p_127)
abbrev p_142 : List BE := (th6 :: p_128)
abbrev p_143 : List BE := (th6 :: p_129)
abbrev p_144 : List BE := (th7 :: p_130)
abbrev p_145 : List BE := (th7 :: p_131)
abbrev p_146 : List BE := (th8 :: p_132)
abbrev p_147 : List BE := (th8 :: p_133)
abbrev p_148 : List BE := (th11 :: p_136)
abbrev p_149 : List BE := ((BE.not th11) :: p_136)
abbrev p_150 : List BE := (th11 :: p_137)
abbrev p_151 : List BE := ((BE.not th11) :: p_137)
abbrev p_152 : List BE := (th5 :: p_138)
abbrev p_153 : List BE := (th5 :: p_139)
abbrev p_154 : List BE := (th6 :: p_140)
abbrev p_155 : List BE := (th6 :: p_141)
abbrev p_156 : List BE := (th7 :: p_142)
abbrev p_157 : List BE := (th7 :: p_143)
abbrev p_158 : List BE := (th8 :: p_144)
abbrev p_159 : List BE := (th8 :: p_145)
abbrev p_160 : List BE := (th5 :: p_148)
abbrev p_161 : List BE := (th5 :: p_149)
abbrev p_162 : List BE := (th5 :: p_150)
abbrev p_163 : List BE := (th5 :: p_151)
abbrev p_164 : List BE := (th6 :: p_152)
abbrev p_165 : List BE := (th6 :: p_153)
abbrev p_166 : List BE := (th7 :: p_154)
abbrev p_167 : List BE := (th7 :: p_155)
abbrev p_168 : List BE := (th8 :: p_156)
abbrev p_169 : List BE := (th8 :: p_157)
abbrev p_170 : List BE := (th6 :: p_160)
abbrev p_171 : List BE := (th6 :: p_161)
abbrev p_172 : List BE := (th6 :: p_162)
abbrev p_173 : List BE := (th6 :: p_163)
abbrev p_174 : List BE := (th7 :: p_164)
abbrev p_175 : List BE := (th7 :: p_165)
abbrev p_176 : List BE := (th8 :: p_166)
abbrev p_177 : List BE := (th8 :: p_167)
abbrev p_178 : List BE := (th7 :: p_170)
abbrev p_179 : List BE := (th7 :: p_171)
abbrev p_180 : List BE := (th7 :: p_172)
abbrev p_181 : List BE := (th7 :: p_173)
abbrev p_182 : List BE := (th8 :: p_174)
abbrev p_183 : List BE := (th8 :: p_175)
abbrev p_184 : List BE := (th8 :: p_178)
abbrev p_185 : List BE := (th8 :: p_179)
abbrev p_186 : List BE := (th8 :: p_180)
abbrev p_187 : List BE := (th8 :: p_181)
def w_0 : VW := (VW.done (th9 :: p_184) (some []))
def w_1 : VW := (VW.done ((BE.not th9) :: p_184) (some [(G.b (BE.lit true) (BE.lit false))]))
def w_2 : VW := (VW.done ((BE.not th8) :: p_178) (some [(G.b (BE.lit true) (BE.lit false))]))
def w_3 : VW := (VW.done ((BE.not th7) :: p_170) (some [(G.b (BE.lit true) (BE.lit false))]))
def w_4 : VW := (VW.done ((BE.not th6) :: p_160) (some [(G.b (BE.lit true) (BE.lit false))]))
def w_5 : VW := (VW.done ((BE.not th5) :: p_148) (some [(G.b (BE.lit true) (BE.lit false))]))
def w_6 : VW := (VW.done (th9 :: p_185) (some [(G.b (BE.lit true) (BE.lit false))]))
def w_7 : VW := (VW.done ((BE.not th9) :: p_185) (some []))
def w_8 : VW := (VW.done ((BE.not th8) :: p_179) (some []))
def w_9 : VW := (VW.done ((BE.not th7) :: p_171) (some []))
def w_10 : VW := (VW.done ((BE.not th6) :: p_161) (some []))
def w_11 : VW := (VW.done ((BE.not th5) :: p_149) (some []))
def w_12 : VW := (VW.done ((BE.not th1) :: p_103) (some []))
def w_13 : VW := (VW.done ((BE.le (IE.lit 1) (IE.len th0)) :: th12 :: th1 :: p_87) (some []))
def w_14 : VW := (VW.done ((BE.not th1) :: p_87) (some []))
def w_15 : VW := (VW.done ((BE.not th16) :: p_66) (some [(G.b (BE.lit true) (BE.lit false))]))
def w_16 : VW := (VW.done ((BE.not th15) :: p_55) (some [(G.b (BE.lit true) (BE.lit false))]))
def w_17 : VW := (VW.done ((BE.not th22) :: p_44) (some [(G.b (BE.lit true) (BE.lit false))]))
def w_18 : VW := (VW.done ((BE.not th21) :: p_33) (some [(G.b (BE.lit true) (BE.lit false))]))
def w_19 : VW := (VW.done ((BE.not th20) :: p_25) (some [(G.b (BE.lit true) (BE.lit false))]))
def w_20 : VW := (VW.done ((BE.not th19) :: p_19) (some [(G.b (BE.lit true) (BE.lit false))]))
def w_21 : VW := (VW.done ((BE.not th18) :: p_15) (some [(G.b (BE.lit true) (BE.lit false))]))
def w_22 : VW := (VW.done ((BE.not th17) :: p_11) (some [(G.b (BE.lit true) (BE.lit false))]))
def w_23 : VW := (VW.done (th16 :: p_67) (some [(G.b (BE.lit true) (BE.lit false))]))
def w_24 : VW := (VW.done (th9 :: p_186) (some []))
def w_25 : VW := (VW.done ((BE.not th9) :: p_186) (some [(G.b (BE.lit true) (BE.lit false))]))
def w_26 : VW := (VW.done ((BE.not th8) :: p_180) (some [(G.b (BE.lit true) (BE.lit false))]))
def w_27 : VW := (VW.done ((BE.not th7) :: p_172) (some [(G.b (BE.lit true) (BE.lit false))]))
def w_28 : VW := (VW.done ((BE.not th6) :: p_162) (some [(G.b (BE.lit true) (BE.lit false))]))
def w_29 : VW := (VW.done ((BE.not th5) :: p_150) (some [(G.b (BE.lit true) (BE.lit false))]))
def w_30 : VW := (VW.done (th9 :: p_187) (some [(G.b (BE.lit true) (BE.lit false))]))
def w_31 : VW := (VW.done ((BE.not th9) :: p_187) (some []))
def w_32 : VW := (VW.done ((BE.not th8) :: p_181) (some []))
def w_33 : VW := (VW.done ((BE.not th7) :: p_173) (some []))
def w_34 : VW := (VW.done ((BE.not th6) :: p_163) (some []))
def w_35 : VW := (VW.done ((BE.not th5) :: p_151) (some []))
def w_36 : VW := (VW.done ((BE.not th1) :: p_104) (some []))
def w_37 : VW := (VW.done ((BE.le (IE.lit 1) (IE.len th0)) :: th12 :: th1 :: p_88) (some []))
def w_38 : VW := (VW.done ((BE.not th1) :: p_88) (some []))
def w_39 : VW := (VW.done (th9 :: p_182) (some []))
def w_40 : VW := (VW.done ((BE.not th9) :: p_182) (some [(G.b (BE.lit true) (BE.lit false))]))
def w_41 : VW := (VW.done ((BE.not th8) :: p_174) (some [(G.b (BE.lit true) (BE.lit false))]))
def w_42 : VW := (VW.done ((BE.not th7) :: p_164) (some [(G.b (BE.lit true) (BE.lit false))]))
def w_43 : VW := (VW.done ((BE.not th6) :: p_152) (some [(G.b (BE.lit true) (BE.lit false))]))
def w_44 : VW := (VW.done ((BE.not th5) :: p_138) (some [(G.b (BE.lit true) (BE.lit false))]))
def w_45 : VW := (VW.done (th9 :: p_183) (some [(G.b (BE.lit true) (BE.lit false))]))
def w_46 : VW := (VW.done ((BE.not th9) :: p_183) (some []))
def w_47 : VW := (VW.done ((BE.not th8) :: p_175) (some []))
def w_48 : VW := (VW.done ((BE.not th7) :: p_165) (some []))
def w_49 : VW := (VW.done ((BE.not th6) :: p_153) (some []))
def w_50 : VW := (VW.done ((BE.not th5) :: p_139) (some []))
def w_51 : VW := (VW.done ((BE.not th1) :: p_95) (some []))
def w_52 : VW := (VW.done ((BE.le (IE.lit 1) (IE.len th0)) :: th12 :: th1 :: p_78) (some []))
def w_53 : VW := (VW.done ((BE.not th1) :: p_78) (some []))
def w_54 : VW := (VW.done (th9 :: p_176) (some []))
def w_55 : VW := (VW.done ((BE.not th9) :: p_176) (some [(G.b (BE.lit true) (BE.lit false))]))
def w_56 : VW := (VW.done ((BE.not th8) :: p_166) (some [(G.b (BE.lit true) (BE.lit false))]))
def w_57 : VW := (VW.done ((BE.not th7) :: p_154) (some [(G.b (BE.lit true) (BE.lit false))]))
def w_58 : VW := (VW.done ((BE.not th6) :: p_140) (some [(G.b (BE.lit true) (BE.lit false))]))
def w_59 : VW := (VW.done ((BE.not th5) :: p_126) (some [(G.b (BE.lit true) (BE.lit false))]))
def w_60 : VW := (VW.done (th9 :: p_177) (some [(G.b (BE.lit true) (BE.lit false))]))
def w_61 : VW := (VW.done ((BE.not th9) :: p_177) (some []))
def w_62 : VW := (VW.done ((BE.not th8) :: p_167) (some []))
def w_63 : VW := (VW.done ((BE.not th7) :: p_155) (some []))
def w_64 : VW := (VW.done ((BE.not th6) :: p_141) (some []))
def w_65 : VW := (VW.done ((BE.not th5) :: p_127) (some []))
def w_66 : VW := (VW.done ((BE.not th1) :: p_89) (some []))
def w_67 : VW := (VW.done ((BE.le (IE.lit 1) (IE.len th0)) :: th12 :: th1 :: p_69) (some []))
def w_68 : VW := (VW.done ((BE.not th1) :: p_69) (some []))
def w_69 : VW := (VW.done (th9 :: p_168) (some []))
def w_70 : VW := (VW.done ((BE.not th9) :: p_168) (some [(G.b (BE.lit true) (BE.lit false))]))
def w_71 : VW := (VW.done ((BE.not th8) :: p_156) (some [(G.b (BE.lit true) (BE.lit false))]))
def w_72 : VW := (VW.done ((BE.not th7) :: p_142) (some [(G.b (BE.lit true) (BE.lit false))]))
def w_73 : VW := (VW.done ((BE.not th6) :: p_128) (some [(G.b (BE.lit true) (BE.lit false))]))
def w_74 : VW := (VW.done ((BE.not th5) :: p_115) (some [(G.b (BE.lit true) (BE.lit false))]))
def w_75 : VW := (VW.done (th9 :: p_169) (some [(G.b (BE.lit true) (BE.lit false))]))
def w_76 : VW := (VW.done ((BE.not th9) :: p_169) (some []))
def w_77 : VW := (VW.done ((BE.not th8) :: p_157) (some []))
def w_78 : VW := (VW.done ((BE.not th7) :: p_143) (some []))
def w_79 : VW := (VW.done ((BE.not th6) :: p_129) (some []))
def w_80 : VW := (VW.done ((BE.not th5) :: p_116) (some []))
def w_81 : VW := (VW.done ((BE.not th1) :: p_79) (some []))
def w_82 : VW := (VW.done ((BE.le (IE.lit 1) (IE.len th0)) :: th12 :: th1 :: p_58) (some []))
def w_83 : VW := (VW.done ((BE.not th1) :: p_58) (some []))
def w_84 : VW := (VW.done (th9 :: p_158) (some []))
def w_85 : VW := (VW.done ((BE.not th9) :: p_158) (some [(G.b (BE.lit true) (BE.lit false))]))
def w_86 : VW := (VW.done ((BE.not th8) :: p_144) (some [(G.b (BE.lit true) (BE.lit false))]))
def w_87 : VW := (VW.done ((BE.not th7) :: p_130) (some [(G.b (BE.lit true) (BE.lit false))]))
def w_88 : VW := (VW.done ((BE.not th6) :: p_117) (some [(G.b (BE.lit true) (BE.lit false))]))
def w_89 : VW := (VW.done ((BE.not th5) :: p_106) (some [(G.b (BE.lit true) (BE.lit false))]))
def w_90 : VW := (VW.done (th9 :: p_159) (some [(G.b (BE.lit true) (BE.lit false))]))
def w_91 : VW := (VW.done ((BE.not th9) :: p_159) (some []))
def w_92 : VW := (VW.done ((BE.not th8) :: p_145) (some []))
def w_93 : VW := (VW.done ((BE.not th7) :: p_131) (some []))
def w_94 : VW := (VW.done ((BE.not th6) :: p_118) (some []))
def w_95 : VW := (VW.done ((BE.not th5) :: p_107) (some []))
def w_96 : VW := (VW.done ((BE.not th1) :: p_70) (some []))
def w_97 : VW := (VW.done ((BE.le (IE.lit 1) (IE.len th0)) :: th12 :: th1 :: p_47) (some []))
def w_98 : VW := (VW.done ((BE.not th1) :: p_47) (some []))
def w_99 : VW := (VW.done (th9 :: p_146) (some []))
def w_100 : VW := (VW.done ((BE.not th9) :: p_146) (some [(G.b (BE.lit true) (BE.lit false))]))
def w_101 : VW := (VW.done ((BE.not th8) :: p_132) (some [(G.b (BE.lit true) (BE.lit false))]))
def w_102 : VW := (VW.done ((BE.not th7) :: p_119) (some [(G.b (BE.lit true) (BE.lit false))]))
def w_103 : VW := (VW.done ((BE.not th6) :: p_108) (some [(G.b (BE.lit true) (BE.lit false))]))
def w_104 : VW := (VW.done ((BE.not th5) :: p_97) (some [(G.b (BE.lit true) (BE.lit false))]))
def w_105 : VW := (VW.done (th9 :: p_147) (some [(G.b (BE.lit true) (BE.lit false))]))
def w_106 : VW := (VW.done ((BE.not th9) :: p_147) (some []))
def w_107 : VW := (VW.done ((BE.not th8) :: p_133) (some []))
def w_108 : VW := (VW.done ((BE.not th7) :: p_120) (some []))
def w_109 : VW := (VW.done ((BE.not th6) :: p_109) (some []))
def w_110 : VW := (VW.done ((BE.not th5) :: p_98) (some []))
def w_111 : VW := (VW.done ((BE.not th1) :: p_59) (some []))
def w_112 : VW := (VW.done ((BE.le (IE.lit 1) (IE.len th0)) :: th12 :: th1 :: p_36) (some []))
def w_113 : VW := (VW.done ((BE.not th1) :: p_36) (some []))
def w_114 : VW := (VW.done (th9 :: p_134) (some []))
def w_115 : VW := (VW.done ((BE.not th9) :: p_134) (some [(G.b (BE.lit true) (BE.lit false))]))
def w_116 : VW := (VW.done ((BE.not th8) :: p_121) (some [(G.b (BE.lit true) (BE.lit false))]))
def w_117 : VW := (VW.done ((BE.not th7) :: p_110) (some [(G.b (BE.lit true) (BE.lit false))]))
def w_118 : VW := (VW.done ((BE.not th6) :: p_99) (some [(G.b (BE.lit true) (BE.lit false))]))
def w_119 : VW := (VW.done ((BE.not th5) :: p_91) (some [(G.b (BE.lit true) (BE.lit false))]))
def w_120 : VW := (VW.done (th9 :: p_135) (some [(G.b (BE.lit true) (BE.lit false))]))
def w_121 : VW := (VW.done ((BE.not th9) :: p_135) (some []))
def w_122 : VW := (VW.done ((BE.not th8) :: p_122) (some []))
def w_123 : VW := (VW.done ((BE.not th7) :: p_111) (some []))
def w_124 : VW := (VW.done ((BE.not th6) :: p_100) (some []))
def w_125 : VW := (VW.done ((BE.not th5) :: p_92) (some []))
def w_126 : VW := (VW.done ((BE.not th1) :: p_48) (some []))
def w_127 : VW := (VW.done ((BE.le (IE.lit 1) (IE.len th0)) :: th12 :: th1 :: p_28) (some []))
def w_128 : VW := (VW.done ((BE.not th1) :: p_28) (some []))
def w_129 : VW := (VW.done (th9 :: p_123) (some []))
def w_130 : VW := (VW.done ((BE.not th9) :: p_123) (some [(G.b (BE.lit true) (BE.lit false))]))
def w_131 : VW := (VW.done ((BE.not th8) :: p_112) (some [(G.b (BE.lit true) (BE.lit false))]))
def w_132 : VW := (VW.done ((BE.not th7) :: p_101) (some [(G.b (BE.lit true) (BE.lit false))]))
def w_133 : VW := (VW.done ((BE.not th6) :: p_93) (some [(G.b (BE.lit true) (BE.lit false))]))
def w_134 : VW := (VW.done ((BE.not th5) :: p_81) (some [(G.b (BE.lit true) (BE.lit false))]))
def w_135 : VW := (VW.done (th9 :: p_124) (some [(G.b (BE.lit true) (BE.lit false))]))
def w_136 : VW := (VW.done ((BE.not th9) :: p_124) (some []))
def w_137 : VW := (VW.done ((BE.not th8) :: p_113) (some []))
def w_138 : VW := (VW.done ((BE.not th7) :: p_102) (some []))
def w_139 : VW := (VW.done ((BE.not th6) :: p_94) (some []))
def w_140 : VW := (VW.done ((BE.not th5) :: p_82) (some []))
def w_141 : VW := (VW.done ((BE.not th1) :: p_37) (some []))
def w_142 : VW := (VW.done ((BE.le (IE.lit 1) (IE.len th0)) :: th12 :: th1 :: p_22) (some []))
def w_143 : VW := (VW.done ((BE.not th1) :: p_22) (some []))
def w_144 : VW := (VW.done (th9 :: p_83) (some []))
def w_145 : VW := (VW.done ((BE.not th9) :: p_83) (some [(G.b (BE.lit true) (BE.lit false))]))
def w_146 : VW := (VW.done ((BE.not th8) :: p_72) (some [(G.b (BE.lit true) (BE.lit false))]))
def w_147 : VW := (VW.done ((BE.not th7) :: p_60) (some [(G.b (BE.lit true) (BE.lit false))]))
def w_148 : VW := (VW.done ((BE.not th6) :: p_49) (some [(G.b (BE.lit true) (BE.lit false))]))
def w_149 : VW := (VW.done ((BE.not th5) :: p_38) (some [(G.b (BE.lit true) (BE.lit false))]))
def w_150 : VW := (VW.done (th9 :: p_84) (some [(G.b (BE.lit true) (BE.lit false))]))
def w_151 : VW := (VW.done ((BE.not th9) :: p_84) (some []))
def w_152 : VW := (VW.done ((BE.not th8) :: p_73) (some []))
def w_153 : VW := (VW.done ((BE.not th7) :: p_61) (some []))
def w_154 : VW := (VW.done ((BE.not th6) :: p_50) (some []))
def w_155 : VW := (VW.done ((BE.not th5) :: p_39) (some []))
def w_156 : VW := (VW.done ((BE.not th1) :: p_13) (some []))
def w_157 : VW := (VW.done ((BE.le (IE.lit 1) (IE.len th0)) :: th12 :: th1 :: p_7) (some []))
def w_158 : VW := (VW.done ((BE.not th1) :: p_7) (some []))
def w_159 : VW := (VW.done (th9 :: p_85) (some []))
def w_160 : VW := (VW.done ((BE.not th9) :: p_85) (some [(G.b (BE.lit true) (BE.lit false))]))
def w_161 : VW := (VW.done ((BE.not th8) :: p_74) (some [(G.b (BE.lit true) (BE.lit false))]))
def w_162 : VW := (VW.done ((BE.not th7) :: p_62) (some [(G.b (BE.lit true) (BE.lit false))]))
def w_163 : VW := (VW.done ((BE.not th6) :: p_51) (some [(G.b (BE.lit true) (BE.lit false))]))
def w_164 : VW := (VW.done ((BE.not th5) :: p_40) (some [(G.b (BE.lit true) (BE.lit false))]))
def w_165 : VW := (VW.done (th9 :: p_86) (some [(G.b (BE.lit true) (BE.lit false))]))
def w_166 : VW := (VW.done ((BE.not th9) :: p_86) (some []))
def w_167 : VW := (VW.done ((BE.not th8) :: p_75) (some []))
def w_168 : VW := (VW.done ((BE.not th7) :: p_63) (some []))
def w_169 : VW := (VW.done ((BE.not th6) :: p_52) (some []))
def w_170 : VW := (VW.done ((BE.not th5) :: p_41) (some []))
def w_171 : VW := (VW.done ((BE.not th1) :: p_14) (some []))
def w_172 : VW := (VW.done ((BE.le (IE.lit 1) (IE.len th0)) :: th12 :: th1 :: p_8) (some []))
def w_173 : VW := (VW.done ((BE.not th1) :: p_8) (some []))
def w_174 : VW := (VW.done (th9 :: p_64) (some []))
def w_175 : VW := (VW.done ((BE.not th9) :: p_64) (some [(G.b (BE.lit true) (BE.lit false))]))
def w_176 : VW := (VW.done ((BE.not th8) :: p_53) (some [(G.b (BE.lit true) (BE.lit false))]))
def w_177 : VW := (VW.done ((BE.not th7) :: p_42) (some [(G.b (BE.lit true) (BE.lit false))]))
def w_178 : VW := (VW.done ((BE.not th6) :: p_31) (some [(G.b (BE.lit true) (BE.lit false))]))
def w_179 : VW := (VW.done ((BE.not th5) :: p_23) (some [(G.b (BE.lit true) (BE.lit false))]))
def w_180 : VW := (VW.done (th9 :: p_65) (some [(G.b (BE.lit true) (BE.lit false))]))
def w_181 : VW := (VW.done ((BE.not th9) :: p_65) (some []))
def w_182 : VW := (VW.done ((BE.not th8) :: p_54) (some []))
def w_183 : VW := (VW.done ((BE.not th7) :: p_43) (some []))
def w_184 : VW := (VW.done ((BE.not th6) :: p_32) (some []))
def w_185 : VW := (VW.done ((BE.not th5) :: p_24) (some []))
def w_186 : VW := (VW.done ((BE.not th1) :: p_9) (some []))
def w_187 : VW := (VW.done ((BE.le (IE.lit 1) (IE.len th0)) :: th12 :: th1 :: p_4) (some []))
def w_188 : VW := (VW.done ((BE.not th1) :: p_4) (some []))
def vwh : List VW := [w_0, w_1, w_2, w_3, w_4, w_5, w_6, w_7, w_8, w_9, w_10, w_11, w_12, w_13, w_14, w_15, w_16, w_17, w_18, w_19, w_20, w_21, w_22, w_23, w_24, w_25, w_26, w_27, w_28, w_29, w_30, w_31, w_32, w_33, w_34, w_35, w_36, w_37, w_38, w_39, w_40, w_41, w_42, w_43, w_44, w_45, w_46, w_47, w_48, w_49, w_50, w_51, w_52, w_53, w_54, w_55, w_56, w_57, w_58, w_59, w_60, w_61, w_62, w_63, w_64, w_65, w_66, w_67, w_68, w_69, w_70, w_71, w_72, w_73, w_74, w_75, w_76, w_77, w_78, w_79, w_80, w_81, w_82, w_83, w_84, w_85, w_86, w_87, w_88, w_89, w_90, w_91, w_92, w_93, w_94, w_95, w_96, w_97, w_98, w_99, w_100, w_101, w_102, w_103, w_104, w_105, w_106, w_107, w_108, w_109, w_110, w_111, w_112, w_113, w_114, w_115, w_116, w_117, w_118, w_119, w_120, w_121, w_122, w_123, w_124, w_125, w_126, w_127, w_128, w_129, w_130, w_131, w_132, w_133, w_134, w_135, w_136, w_137, w_138, w_139, w_140, w_141, w_142, w_143, w_144, w_145, w_146, w_147, w_148, w_149, w_150, w_151, w_152, w_153, w_154, w_155, w_156, w_157, w_158, w_159, w_160, w_161, w_162, w_163, w_164, w_165, w_166, w_167, w_168, w_169, w_170, w_171, w_172, w_173, w_174, w_175, w_176, w_177, w_178, w_179, w_180, w_181, w_182, w_183, w_184, w_185, w_186, w_187, w_188]
end
theorem g0 {ρ : Rho} (hF : ρ.z.F = oct.Φ) (hρ : ρ.Ok) (h : Holds ρ [th11, th3, th1, (BE.not th9)]) : False := by
 simp only [h_nil, h_cons, d_eq, d_not, d_fn, IE.den, LE.den, AL.den, and_true, hF, pb11, pb12, pl7, pl9, pb13] at h
 obtain ⟨_, _, _, _⟩ := h
 exact absurd (fC hρ (by assumption) (by assumption) (by assumption)).2.2.2.2 (by assumption)
theorem g1 {ρ : Rho} (hF : ρ.z.F = oct.Φ) (hρ : ρ.Ok) (h : Holds ρ [th11, th3, th1, (BE.not th8)]) : False := by
 simp only [h_nil, h_cons, d_eq, d_not, d_fn, IE.den, LE.den, AL.den, and_true, hF, pb11, pb12, pl7, pl9, pb13] at h
 obtain ⟨_, _, _, _⟩ := h
 exact absurd (fC hρ (by assumption) (by assumption) (by assumption)).2.2.2.1 (by assumption)
theorem g2 {ρ : Rho} (hF : ρ.z.F = oct.Φ) (hρ : ρ.Ok) (h : Holds ρ [th11, th3, th1, (BE.not th7)]) : False := by
 simp only [h_nil, h_cons, d_eq, d_not, d_fn, IE.den, LE.den, AL.den, and_true, hF, pb11, pb12, pl7, pl9, pb13] at h
 obtain ⟨_, _, _, _⟩ := h
 exact absurd (fC hρ (by assumption) (by assumption) (by assumption)).2.2.1 (by assumption)
theorem g3 {ρ : Rho} (hF : ρ.z.F = oct.Φ) (hρ : ρ.Ok) (h : Holds ρ [th11, th3, th1, (BE.not th6)]) : False := by
 simp only [h_nil, h_cons, d_eq, d_not, d_fn, IE.den, LE.den, AL.den, and_true, hF, pb11, pb12, pl7, pl9, pb13] at h
 obtain ⟨_, _, _, _⟩ := h
 exact absurd (fC hρ (by assumption) (by assumption) (by assumption)).2.1 (by assumption)
theorem g4 {ρ : Rho} (hF : ρ.z.F = oct.Φ) (hρ : ρ.Ok) (h : Holds ρ [th11, th3, th1, (BE.not th5)]) : False := by
 simp only [h_nil, h_cons, d_eq, d_not, d_fn, IE.den, LE.den, AL.den, and_true, hF, pb11, pb12, pl7, pl9, pb13] at h
 obtain ⟨_, _, _, _⟩ := h
 exact absurd (fC hρ (by assumption) (by assumption) (by assumption)).1 (by assumption)
theorem g5 {ρ : Rho} (hF : ρ.z.F = oct.Φ) (hρ : ρ.Ok) (h : Holds ρ [(BE.not th11), th5, th6, th7, th8, th9]) : False := by
 simp only [h_nil, h_cons, d_eq, d_not, d_fn, IE.den, LE.den, AL.den, and_true, hF, pb11, pb12, pl7, pl9, pb13] at h
 obtain ⟨_, _, _, _, _, _⟩ := h
 exact fD (by assumption) (by assumption) (by assumption) (by assumption) (by assumption) (by assumption)
theorem g6 {ρ : Rho} (hF : ρ.z.F = oct.Φ) (hρ : ρ.Ok) (h : Holds ρ [(BE.fn 13 (AL.lst (LE.fn 7 th10) (AL.lst (LE.fn 7 th4) AL.nil))), (BE.fn 11 (AL.int .i64 (IE.var .i64 1) (AL.int .i64 (IE.var .i64 2) (AL.int .i64 (IE.var .i64 3) th10)))), th13, (BE.not th16)]) : False := by
 simp only [h_nil, h_cons, d_eq, d_not, d_fn, IE.den, LE.den, AL.den, and_true, hF, pb11, pb12, pl7, pl9, pb13] at h
 obtain ⟨_, _, _, _⟩ := h
 exact absurd (fA hρ (by assumption) (by assumption) (by assumption)).2.2.2.2.2.2.2 (by assumption)
theorem g7 {ρ : Rho} (hF : ρ.z.F = oct.Φ) (hρ : ρ.Ok) (h : Holds ρ [(BE.fn 13 (AL.lst (LE.fn 7 th10) (AL.lst (LE.fn 7 th4) AL.nil))), (BE.fn 11 (AL.int .i64 (IE.var .i64 1) (AL.int .i64 (IE.var .i64 2) (AL.int .i64 (IE.var .i64 3) th10)))), th13, (BE.not th15)]) : False := by
 simp only [h_nil, h_cons, d_eq, d_not, d_fn, IE.den, LE.den, AL.den, and_true, hF, pb11, pb12, pl7, pl9, pb13] at h
 obtain ⟨_, _, _, _⟩ := h
 exact absurd (fA hρ (by assumption) (by assumption) (by assumption)).2.2.2.2.2.2.1 (by assumption)
theorem g8 {ρ : Rho} (hF : ρ.z.F = oct.Φ) (hρ : ρ.Ok) (h : Holds ρ [(BE.fn 13 (AL.lst (LE.fn 7 th10) (AL.lst (LE.fn 7 th4) AL.nil))), (BE.fn 11 (AL.int .i64 (IE.var .i64 1) (AL.int .i64 (IE.var .i64 2) (AL.int .i64 (IE.var .i64 3) th10)))), th13, (BE.not th22)]) : False := by
 simp only [h_nil, h_cons, d_eq, d_not, d_fn, IE.den, LE.den, AL.den, and_true, hF, pb11, pb12, pl7, pl9, pb13] at h
 obtain ⟨_, _, _, _⟩ := h
 exact absurd (fA hρ (by assumption) (by assumption) (by assumption)).2.2.2.2.2.1 (by assumption)
theorem g9 {ρ : Rho} (hF : ρ.z.F = oct.Φ) (hρ : ρ.Ok) (h : Holds ρ [(BE.fn 13 (AL.lst (LE.fn 7 th10) (AL.lst (LE.fn 7 th4) AL.nil))), (BE.fn 11 (AL.int .i64 (IE.var .i64 1) (AL.int .i64 (IE.var .i64 2) (AL.int .i64 (IE.var .i64 3) th10)))), th13, (BE.not th21)]) : False := by
 simp only [h_nil, h_cons, d_eq, d_not, d_fn, IE.den, LE.den, AL.den, and_true, hF, pb11, pb12, pl7, pl9, pb13] at h
 obtain ⟨_, _, _, _⟩ := h
 exact absurd (fA hρ (by assumption) (by assumption) (by assumption)).2.2.2.2.1 (by assumption)
theorem g10 {ρ : Rho} (hF : ρ.z.F = oct.Φ) (hρ : ρ.Ok) (h : Holds ρ [(BE.fn 13 (AL.lst (LE.fn 7 th10) (AL.lst (LE.fn 7 th4) AL.nil))), (BE.fn 11 (AL.int .i64 (IE.var .i64 1) (AL.int .i64 (IE.var .i64 2) (AL.int .i64 (IE.var .i64 3) th10)))), th13, (BE.not th20)]) : False := by
 simp only [h_nil, h_cons, d_eq, d_not, d_fn, IE.den, LE.den, AL.den, and_true, hF, pb11, pb12, pl7, pl9, pb13] at h
 obtain ⟨_, _, _, _⟩ := h
 exact absurd (fA hρ (by assumption) (by assumption) (by assumption)).2.2.2.1 (by assumption)
theorem g11 {ρ : Rho} (hF : ρ.z.F = oct.Φ) (hρ : ρ.Ok) (h : Holds ρ [(BE.fn 13 (AL.lst (LE.fn 7 th10) (AL.lst (LE.fn 7 th4) AL.nil))), (BE.fn 11 (AL.int .i64 (IE.var .i64 1) (AL.int .i64 (IE.var .i64 2) (AL.int .i64 (IE.var .i64 3) th10)))), th13, (BE.not th19)]) : False := by
 simp only [h_nil, h_cons, d_eq, d_not, d_fn, IE.den, LE.den, AL.den, and_true, hF, pb11, pb12, pl7, pl9, pb13] at h
 obtain ⟨_, _, _, _⟩ := h
 exact absurd (fA hρ (by assumption) (by assumption) (by assumption)).2.2.1 (by assumption)
theorem g12 {ρ : Rho} (hF : ρ.z.F = oct.Φ) (hρ : ρ.Ok) (h : Holds ρ [(BE.fn 13 (AL.lst (LE.fn 7 th10) (AL.lst (LE.fn 7 th4) AL.nil))), (BE.fn 11 (AL.int .i64 (IE.var .i64 1) (AL.int .i64 (IE.var .i64 2) (AL.int .i64 (IE.var .i64 3) th10)))), th13, (BE.not th18)]) : False := by
 simp only [h_nil, h_cons, d_eq, d_not, d_fn, IE.den, LE.den, AL.den, and_true, hF, pb11, pb12, pl7, pl9, pb13] at h
 obtain ⟨_, _, _, _⟩ := h
 exact absurd (fA hρ (by assumption) (by assumption) (by assumption)).2.1 (by assumption)
theorem g13 {ρ : Rho} (hF : ρ.z.F = oct.Φ) (hρ : ρ.Ok) (h : Holds ρ [(BE.fn 13 (AL.lst (LE.fn 7 th10) (AL.lst (LE.fn 7 th4) AL.nil))), (BE.fn 11 (AL.int .i64 (IE.var .i64 1) (AL.int .i64 (IE.var .i64 2) (AL.int .i64 (IE.var .i64 3) th10)))), th13, (BE.not th17)]) : False := by
 simp only [h_nil, h_cons, d_eq, d_not, d_fn, IE.den, LE.den, AL.den, and_true, hF, pb11, pb12, pl7, pl9, pb13] at h
 obtain ⟨_, _, _, _⟩ := h
 exact absurd (fA hρ (by assumption) (by assumption) (by assumption)).1 (by assumption)
theorem g14 {ρ : Rho} (hF : ρ.z.F = oct.Φ) (hρ : ρ.Ok) (h : Holds ρ [(BE.not (BE.fn 13 (AL.lst (LE.fn 7 th10) (AL.lst (LE.fn 7 th4) AL.nil)))), th17, th18, th19, th20, th21, th22, th15, th16]) : False := by
 simp only [h_nil, h_cons, d_eq, d_not, d_fn, IE.den, LE.den, AL.den, and_true, hF, pb11, pb12, pl7, pl9, pb13] at h
 obtain ⟨_, _, _, _, _, _, _, _, _⟩ := h
 exact fB (by assumption) (by assumption) (by assumption) (by assumption) (by assumption) (by assumption) (by assumption) (by assumption) (by assumption)
theorem v_0 : VD TTh (st0 cHolds) w_0 := fun _ _ _ => all_nil
theorem v_1 : VD TTh (st0 cHolds) w_1 := fun _ k h => (g0 k.F k.ok (has_ok (by kernel_rfl) h)).elim
theorem v_2 : VD TTh (st0 cHolds) w_2 := fun _ k h => (g1 k.F k.ok (has_ok (by kernel_rfl) h)).elim
theorem v_3 : VD TTh (st0 cHolds) w_3 := fun _ k h => (g2 k.F k.ok (has_ok (by kernel_rfl) h)).elim
theorem v_4 : VD TTh (st0 cHolds) w_4 := fun _ k h => (g3 k.F k.ok (has_ok (by kernel_rfl) h)).elim
theorem v_5 : VD TTh (st0 cHolds) w_5 := fun _ k h => (g4 k.F k.ok (has_ok (by kernel_rfl) h)).elim
theorem v_6 : VD TTh (st0 cHolds) w_6 := fun _ k h => (g5 k.F k.ok (has_ok (by kernel_rfl) h)).elim
theorem v_7 : VD TTh (st0 cHolds) w_7 := fun _ _ _ => all_nil
theorem v_8 : VD TTh (st0 cHolds) w_8 := fun _ _ _ => all_nil
theorem v_9 : VD TTh (st0 cHolds) w_9 := fun _ _ _ => all_nil
theorem v_10 : VD TTh (st0 cHolds) w_10 := fun _ _ _ => all_nil
theorem v_11 : VD TTh (st0 cHolds) w_11 := fun _ _ _ => all_nil
theorem v_12 : VD TTh (st0 cHolds) w_12 := fun _ _ _ => all_nil
theorem v_13 : VD TTh (st0 cHolds) w_13 := fun _ _ _ => all_nil
theorem v_14 : VD TTh (st0 cHolds) w_14 := fun _ _ _ => all_nil
theorem v_15 : VD TTh (st0 cHolds) w_15 := fun _ k h => (g6 k.F k.ok (has_ok (by kernel_rfl) h)).elim
theorem v_16 : VD TTh (st0 cHolds) w_16 := fun _ k h => (g7 k.F k.ok (has_ok (by kernel_rfl) h)).elim
theorem v_17 : VD TTh (st0 cHolds) w_17 := fun _ k h => (g8 k.F k.ok (has_ok (by kernel_rfl) h)).elim
theorem v_18 : VD TTh (st0 cHolds) w_18 := fun _ k h => (g9 k.F k.ok (has_ok (by kernel_rfl) h)).elim
theorem v_19 : VD TTh (st0 cHolds) w_19 := fun _ k h => (g10 k.F k.ok (has_ok (by kernel_rfl) h)).elim
theorem v_20 : VD TTh (st0 cHolds) w_20 := fun _ k h => (g11 k.F k.ok (has_ok (by kernel_rfl) h)).elim
theorem v_21 : VD TTh (st0 cHolds) w_21 := fun _ k h => (g12 k.F k.ok (has_ok (by kernel_rfl) h)).elim
theorem v_22 : VD TTh (st0 cHolds) w_22 := fun _ k h => (g13 k.F k.ok (has_ok (by kernel_rfl) h)).elim
theorem v_23 : VD TTh (st0 cHolds) w_23 := fun _ k h => (g14 k.F k.ok (has_ok (by kernel_rfl) h)).elim
theorem v_24 : VD TTh (st0 cHolds) w_24 := fun _ _ _ => all_nil
theorem v_25 : VD TTh (st0 cHolds) w_25 := fun _ k h => (g0 k.F k.ok (has_ok (by kernel_rfl) h)).elim
theorem v_26 : VD TTh (st0 cHolds) w_26 := fun _ k h => (g1 k.F k.ok (has_ok (by kernel_rfl) h)).elim
theorem v_27 : VD TTh (st0 cHolds) w_27 := fun _ k h => (g2 k.F k.ok (has_ok (by kernel_rfl) h)).elim
theorem v_28 : VD TTh (st0 cHolds) w_28 := fun _ k h => (g3 k.F k.ok (has_ok (by kernel_rfl) h)).elim
theorem v_29 : VD TTh (st0 cHolds) w_29 := fun _ k h => (g4 k.F k.ok (has_ok (by kernel_rfl) h)).elim
theorem v_30 : VD TTh (st0 cHolds) w_30 := fun _ k h => (g5 k.F k.ok (has_ok (by kernel_rfl) h)).elim
theorem v_31 : VD TTh (st0 cHolds) w_31 := fun _ _ _ => all_nil
theorem v_32 : VD TTh (st0 cHolds) w_32 := fun _ _ _ => all_nil
theorem v_33 : VD TTh (st0 cHolds) w_33 := fun _ _ _ => all_nil
theorem v_34 : VD TTh (st0 cHolds) w_34 := fun _ _ _ => all_nil
theorem v_35 : VD TTh (st0 cHolds) w_35 := fun _ _ _ => all_nil
theorem v_36 : VD TTh (st0 cHolds) w_36 := fun _ _ _ => all_nil
theorem v_37 : VD TTh (st0 cHolds) w_37 := fun _ _ _ => all_nil
theorem v_38 : VD TTh (st0 cHolds) w_38 := fun _ _ _ => all_nil
theorem v_39 : VD TTh (st0 cHolds) w_39 := fun _ _ _ => all_nil
theorem v_40 : VD TTh (st0 cHolds) w_40 := fun _ k h => (g0 k.F k.ok (has_ok (by kernel_rfl) h)).elim
theorem v_41 : VD TTh (st0 cHolds) w_41 := fun _ k h => (g1 k.F k.ok (has_ok (by kernel_rfl) h)).elim
theorem v_42 : VD TTh (st0 cHolds) w_42 := fun _ k h => (g2 k.F k.ok (has_ok (by kernel_rfl) h)).elim
theorem v_43 : VD TTh (st0 cHolds) w_43 := fun _ k h => (g3 k.F k.ok (has_ok (by kernel_rfl) h)).elim
theorem v_44 : VD TTh (st0 cHolds) w_44 := fun _ k h => (g4 k.F k.ok (has_ok (by kernel_rfl) h)).elim
theorem v_45 : VD TTh (st0 cHolds) w_45 := fun _ k h => (g5 k.F k.ok (has_ok (by kernel_rfl) h)).elim
theorem v_46 : VD TTh (st0 cHolds) w_46 := fun _ _ _ => all_nil
theorem v_47 : VD TTh (st0 cHolds) w_47 := fun _ _ _ => all_nil
theorem v_48 : VD TTh (st0 cHolds) w_48 := fun _ _ _ => all_nil
theorem v_49 : VD TTh (st0 cHolds) w_49 := fun _ _ _ => all_nil
theorem v_50 : VD TTh (st0 cHolds) w_50 := fun _ _ _ => all_nil
theorem v_51 : VD TTh (st0 cHolds) w_51 := fun _ _ _ => all_nil
theorem v_52 : VD TTh (st0 cHolds) w_52 := fun _ _ _ => all_nil
theorem v_53 : VD TTh (st0 cHolds) w_53 := fun _ _ _ => all_nil
theorem v_54 : VD TTh (st0 cHolds) w_54 := fun _ _ _ => all_nil
theorem v_55 : VD TTh (st0 cHolds) w_55 := fun _ k h => (g0 k.F k.ok (has_ok (by kernel_rfl) h)).elim
theorem v_56 : VD TTh (st0 cHolds) w_56 := fun _ k h => (g1 k.F k.ok (has_ok (by kernel_rfl) h)).elim
theorem v_57 : VD TTh (st0 cHolds) w_57 := fun _ k h => (g2 k.F k.ok (has_ok (by kernel_rfl) h)).elim
theorem v_58 : VD TTh (st0 cHolds) w_58 := fun _ k h => (g3 k.F k.ok (has_ok (by kernel_rfl) h)).elim
theorem v_59 : VD TTh (st0 cHolds) w_59 := fun _ k h => (g4 k.F k.ok (has_ok (by kernel_rfl) h)).elim
theorem v_60 : VD TTh (st0 cHolds) w_60 := fun _ k h => (g5 k.F k.ok (has_ok (by kernel_rfl) h)).elim
theorem v_61 : VD TTh (st0 cHolds) w_61 := fun _ _ _ => all_nil
theorem v_62 : VD TTh (st0 cHolds) w_62 := fun _ _ _ => all_nil
theorem v_63 : VD TTh (st0 cHolds) w_63 := fun _ _ _ => all_nil
theorem v_64 : VD TTh (st0 cHolds) w_64 := fun _ _ _ => all_nil
theorem v_65 : VD TTh (st0 cHolds) w_65 := fun _ _ _ => all_nil
theorem v_66 : VD TTh (st0 cHolds) w_66 := fun _ _ _ => all_nil
theorem v_67 : VD TTh (st0 cHolds) w_67 := fun _ _ _ => all_nil
theorem v_68 : VD TTh (st0 cHolds) w_68 := fun _ _ _ => all_nil
theorem v_69 : VD TTh (st0 cHolds) w_69 := fun _ _ _ => all_nil
theorem v_70 : VD TTh (st0 cHolds) w_70 := fun _ k h => (g0 k.F k.ok (has_ok (by kernel_rfl) h)).elim
theorem v_71 : VD TTh (st0 cHolds) w_71 := fun _ k h => (g1 k.F k.ok (has_ok (by kernel_rfl) h)).elim
theorem v_72 : VD TTh (st0 cHolds) w_72 := fun _ k h => (g2 k.F k.ok (has_ok (by kernel_rfl) h)).elim
theorem v_73 : VD TTh (st0 cHolds) w_73 := fun _ k h => (g3 k.F k.ok (has_ok (by kernel_rfl) h)).elim
theorem v_74 : VD TTh (st0 cHolds) w_74 := fun _ k h => (g4 k.F k.ok (has_ok (by kernel_rfl) h)).elim
theorem v_75 : VD TTh (st0 cHolds) w_75 := fun _ k h => (g5 k.F k.ok (has_ok (by kernel_rfl) h)).elim
theorem v_76 : VD TTh (st0 cHolds) w_76 := fun _ _ _ => all_nil
theorem v_77 : VD TTh (st0 cHolds) w_77 := fun _ _ _ => all_nil
theorem v_78 : VD TTh (st0 cHolds) w_78 := fun _ _ _ => all_nil
theorem v_79 : VD TTh (st0 cHolds) w_79 := fun _ _ _ => all_nil
theorem v_80 : VD TTh (st0 cHolds) w_80 := fun _ _ _ => all_nil
theorem v_81 : VD TTh (st0 cHolds) w_81 := fun _ _ _ => all_nil
theorem v_82 : VD TTh (st0 cHolds) w_82 := fun _ _ _ => all_nil
theorem v_83 : VD TTh (st0 cHolds) w_83 := fun _ _ _ => all_nil
theorem v_84 : VD TTh (st0 cHolds) w_84 := fun _ _ _ => all_nil
theorem v_85 : VD TTh (st0 cHolds) w_85 := fun _ k h => (g0 k.F k.ok (has_ok (by kernel_rfl) h)).elim
theorem v_86 : VD TTh (st0 cHolds) w_86 := fun _ k h => (g1 k.F k.ok (has_ok (by kernel_rfl) h)).elim
theorem v_87 : VD TTh (st0 cHolds) w_87 := fun _ k h => (g2 k.F k.ok (has_ok (by kernel_rfl) h)).elim
theorem v_88 : VD TTh (st0 cHolds) w_88 := fun _ k h => (g3 k.F k.ok (has_ok (by kernel_rfl) h)).elim
theorem v_89 : VD TTh (st0 cHolds) w_89 := fun _ k h => (g4 k.F k.ok (has_ok (by kernel_rfl) h)).elim
theorem v_90 : VD TTh (st0 cHolds) w_90 := fun _ k h => (g5 k.F k.ok (has_ok (by kernel_rfl) h)).elim
theorem v_91 : VD TTh (st0 cHolds) w_91 := fun _ _ _ => all_nil
theorem v_92 : VD TTh (st0 cHolds) w_92 := fun _ _ _ => all_nil
theorem v_93 : VD TTh (st0 cHolds) w_93 := fun _ _ _ => all_nil
theorem v_94 : VD TTh (st0 cHolds) w_94 := fun _ _ _ => all_nil
theorem v_95 : VD TTh (st0 cHolds) w_95 := fun _ _ _ => all_nil
theorem v_96 : VD TTh (st0 cHolds) w_96 := fun _ _ _ => all_nil
theorem v_97 : VD TTh (st0 cHolds) w_97 := fun _ _ _ => all_nil
theorem v_98 : VD TTh (st0 cHolds) w_98 := fun _ _ _ => all_nil
theorem v_99 : VD TTh (st0 cHolds) w_99 := fun _ _ _ => all_nil
theorem v_100 : VD TTh (st0 cHolds) w_100 := fun _ k h => (g0 k.F k.ok (has_ok (by kernel_rfl) h)).elim
theorem v_101 : VD TTh (st0 cHolds) w_101 := fun _ k h => (g1 k.F k.ok (has_ok (by kernel_rfl) h)).elim
theorem v_102 : VD TTh (st0 cHolds) w_102 := fun _ k h => (g2 k.F k.ok (has_ok (by kernel_rfl) h)).elim
theorem v_103 : VD TTh (st0 cHolds) w_103 := fun _ k h => (g3 k.F k.ok (has_ok (by kernel_rfl) h)).elim
theorem v_104 : VD TTh (st0 cHolds) w_104 := fun _ k h => (g4 k.F k.ok (has_ok (by kernel_rfl) h)).elim
theorem v_105 : VD TTh (st0 cHolds) w_105 := fun _ k h => (g5 k.F k.ok (has_ok (by kernel_rfl) h)).elim
theorem v_106 : VD TTh (st0 cHolds) w_106 := fun _ _ _ => all_nil
theorem v_107 : VD TTh (st0 cHolds) w_107 := fun _ _ _ => all_nil
theorem v_108 : VD TTh (st0 cHolds) w_108 := fun _ _ _ => all_nil
theorem v_109 : VD TTh (st0 cHolds) w_109 := fun _ _ _ => all_nil
theorem v_110 : VD TTh (st0 cHolds) w_110 := fun _ _ _ => all_nil
theorem v_111 : VD TTh (st0 cHolds) w_111 := fun _ _ _ => all_nil
theorem v_112 : VD TTh (st0 cHolds) w_112 := fun _ _ _ => all_nil
theorem v_113 : VD TTh (st0 cHolds) w_113 := fun _ _ _ => all_nil
theorem v_114 : VD TTh (st0 cHolds) w_114 := fun _ _ _ => all_nil
theorem v_115 : VD TTh (st0 cHolds) w_115 := fun _ k h => (g0 k.F k.ok (has_ok (by kernel_rfl) h)).elim
theorem v_116 : VD TTh (st0 cHolds) w_116 := fun _ k h => (g1 k.F k.ok (has_ok (by kernel_rfl) h)).elim
theorem v_117 : VD TTh (st0 cHolds) w_117 := fun _ k h => (g2 k.F k.ok (has_ok (by kernel_rfl) h)).elim
theorem v_118 : VD TTh (st0 cHolds) w_118 := fun _ k h => (g3 k.F k.ok (has_ok (by kernel_rfl) h)).elim
theorem v_119 : VD TTh (st0 cHolds) w_119 := fun _ k h => (g4 k.F k.ok (has_ok (by kernel_rfl) h)).elim
theorem v_120 : VD TTh (st0 cHolds) w_120 := fun _ k h => (g5 k.F k.ok (has_ok (by kernel_rfl) h)).elim
theorem v_121 : VD TTh (st0 cHolds) w_121 := fun _ _ _ => all_nil
theorem v_122 : VD TTh (st0 cHolds) w_122 := fun _ _ _ => all_nil
theorem v_123 : VD TTh (st0 cHolds) w_123 := fun _ _ _ => all_nil
theorem v_124 : VD TTh (st0 cHolds) w_124 := fun _ _ _ => all_nil
theorem v_125 : VD TTh (st0 cHolds) w_125 := fun _ _ _ => all_nil
theorem v_126 : VD TTh (st0 cHolds) w_126 := fun _ _ _ => all_nil
theorem v_127 : VD TTh (st0 cHolds) w_127 := fun _ _ _ => all_nil
theorem v_128 : VD TTh (st0 cHolds) w_128 := fun _ _ _ => all_nil
theorem v_129 : VD TTh (st0 cHolds) w_129 := fun _ _ _ => all_nil
theorem v_130 : VD TTh (st0 cHolds) w_130 := fun _ k h => (g0 k.F k.ok (has_ok (by kernel_rfl) h)).elim
theorem v_131 : VD TTh (st0 cHolds) w_131 := fun _ k h => (g1 k.F k.ok (has_ok (by kernel_rfl) h)).elim
theorem v_132 : VD TTh (st0 cHolds) w_132 := fun _ k h => (g2 k.F k.ok (has_ok (by kernel_rfl) h)).elim
theorem v_133 : VD TTh (st0 cHolds) w_133 := fun _ k h => (g3 k.F k.ok (has_ok (by kernel_rfl) h)).elim
theorem v_134 : VD TTh (st0 cHolds) w_134 := fun _ k h => (g4 k.F k.ok (has_ok (by kernel_rfl) h)).elim
theorem v_135 : VD TTh (st0 cHolds) w_135 := fun _ k h => (g5 k.F k.ok (has_ok (by kernel_rfl) h)).elim
theorem v_136 : VD TTh (st0 cHolds) w_136 := fun _ _ _ => all_nil
theorem v_137 : VD TTh (st0 cHolds) w_137 := fun _ _ _ => all_nil
theorem v_138 : VD TTh (st0 cHolds) w_138 := fun _ _ _ => all_nil
theorem v_139 : VD TTh (st0 cHolds) w_139 := fun _ _ _ => all_nil
theorem v_140 : VD TTh (st0 cHolds) w_140 := fun _ _ _ => all_nil
theorem v_141 : VD TTh (st0 cHolds) w_141 := fun _ _ _ => all_nil
theorem v_142 : VD TTh (st0 cHolds) w_142 := fun _ _ _ => all_nil
theorem v_143 : VD TTh (st0 cHolds) w_143 := fun _ _ _ => all_nil
theorem v_144 : VD TTh (st0 cHolds) w_144 := fun _ _ _ => all_nil
theorem v_145 : VD TTh (st0 cHolds) w_145 := fun _ k h => (g0 k.F k.ok (has_ok (by kernel_rfl) h)).elim
theorem v_146 : VD TTh (st0 cHolds) w_146 := fun _ k h => (g1 k.F k.ok (has_ok (by kernel_rfl) h)).elim
theorem v_147 : VD TTh (st0 cHolds) w_147 := fun _ k h => (g2 k.F k.ok (has_ok (by kernel_rfl) h)).elim
theorem v_148 : VD TTh (st0 cHolds) w_148 := fun _ k h => (g3 k.F k.ok (has_ok (by kernel_rfl) h)).elim
theorem v_149 : VD TTh (st0 cHolds) w_149 := fun _ k h => (g4 k.F k.ok (has_ok (by kernel_rfl) h)).elim
theorem v_150 : VD TTh (st0 cHolds) w_150 := fun _ k h => (g5 k.F k.ok (has_ok (by kernel_rfl) h)).elim
theorem v_151 : VD TTh (st0 cHolds) w_151 := fun _ _ _ => all_nil
theorem v_152 : VD TTh (st0 cHolds) w_152 := fun _ _ _ => all_nil
theorem v_153 : VD TTh (st0 cHolds) w_153 := fun _ _ _ => all_nil
theorem v_154 : VD TTh (st0 cHolds) w_154 := fun _ _ _ => all_nil
theorem v_155 : VD TTh (st0 cHolds) w_155 := fun _ _ _ => all_nil
theorem v_156 : VD TTh (st0 cHolds) w_156 := fun _ _ _ => all_nil
theorem v_157 : VD TTh (st0 cHolds) w_157 := fun _ _ _ => all_nil
theorem v_158 : VD TTh (st0 cHolds) w_158 := fun _ _ _ => all_nil
theorem v_159 : VD TTh (st0 cHolds) w_159 := fun _ _ _ => all_nil
theorem v_160 : VD TTh (st0 cHolds) w_160 := fun _ k h => (g0 k.F k.ok (has_ok (by kernel_rfl) h)).elim
theorem v_161 : VD TTh (st0 cHolds) w_161 := fun _ k h => (g1 k.F k.ok (has_ok (by kernel_rfl) h)).elim
theorem v_162 : VD TTh (st0 cHolds) w_162 := fun _ k h => (g2 k.F k.ok (has_ok (by kernel_rfl) h)).elim
theorem v_163 : VD TTh (st0 cHolds) w_163 := fun _ k h => (g3 k.F k.ok (has_ok (by kernel_rfl) h)).elim
theorem v_164 : VD TTh (st0 cHolds) w_164 := fun _ k h => (g4 k.F k.ok (has_ok (by kernel_rfl) h)).elim
theorem v_165 : VD TTh (st0 cHolds) w_165 := fun _ k h => (g5 k.F k.ok (has_ok (by kernel_rfl) h)).elim
theorem v_166 : VD TTh (st0 cHolds) w_166 := fun _ _ _ => all_nil
theorem v_167 : VD TTh (st0 cHolds) w_167 := fun _ _ _ => all_nil
theorem v_168 : VD TTh (st0 cHolds) w_168 := fun _ _ _ => all_nil
theorem v_169 : VD TTh (st0 cHolds) w_169 := fun _ _ _ => all_nil
theorem v_170 : VD TTh (st0 cHolds) w_170 := fun _ _ _ => all_nil
theorem v_171 : VD TTh (st0 cHolds) w_171 := fun _ _ _ => all_nil
theorem v_172 : VD TTh (st0 cHolds) w_172 := fun _ _ _ => all_nil
theorem v_173 : VD TTh (st0 cHolds) w_173 := fun _ _ _ => all_nil
theorem v_174 : VD TTh (st0 cHolds) w_174 := fun _ _ _ => all_nil
theorem v_175 : VD TTh (st0 cHolds) w_175 := fun _ k h => (g0 k.F k.ok (has_ok (by kernel_rfl) h)).elim
theorem v_176 : VD TTh (st0 cHolds) w_176 := fun _ k h => (g1 k.F k.ok (has_ok (by kernel_rfl) h)).elim
theorem v_177 : VD TTh (st0 cHolds) w_177 := fun _ k h => (g2 k.F k.ok (has_ok (by kernel_rfl) h)).elim
theorem v_178 : VD TTh (st0 cHolds) w_178 := fun _ k h => (g3 k.F k.ok (has_ok (by kernel_rfl) h)).elim
theorem v_179 : VD TTh (st0 cHolds) w_179 := fun _ k h => (g4 k.F k.ok (has_ok (by kernel_rfl) h)).elim
theorem v_180 : VD TTh (st0 cHolds) w_180 := fun _ k h => (g5 k.F k.ok (has_ok (by kernel_rfl) h)).elim
theorem v_181 : VD TTh (st0 cHolds) w_181 := fun _ _ _ => all_nil
theorem v_182 : VD TTh (st0 cHolds) w_182 := fun _ _ _ => all_nil
theorem v_183 : VD TTh (st0 cHolds) w_183 := fun _ _ _ => all_nil
theorem v_184 : VD TTh (st0 cHolds) w_184 := fun _ _ _ => all_nil
theorem v_185 : VD TTh (st0 cHolds) w_185 := fun _ _ _ => all_nil
theorem v_186 : VD TTh (st0 cHolds) w_186 := fun _ _ _ => all_nil
theorem v_187 : VD TTh (st0 cHolds) w_187 := fun _ _ _ => all_nil
theorem v_188 : VD TTh (st0 cHolds) w_188 := fun _ _ _ => all_nil
theorem told_holds : Sx.Told oct.Φ cHolds := told_vw (cs := [cWorks19, cBegins, cBytes, cBytesN, cTold, cToldN]) (all_cons told_works19 (all_cons told_begins (all_cons told_bytes (all_cons told_bytesn (all_cons told_tld (all_cons told_tldn (all_nil))))))) 9000 vwh (by kernel_rfl) (by kernel_rfl) (by kernel_rfl) (post_nil rfl) (by kernel_rfl) (by kernel_rfl) (all_cons v_0 (all_cons v_1 (all_cons v_2 (all_cons v_3 (all_cons v_4 (all_cons v_5 (all_cons v_6 (all_cons v_7 (all_cons v_8 (all_cons v_9 (all_cons v_10 (all_cons v_11 (all_cons v_12 (all_cons v_13 (all_cons v_14 (all_cons v_15 (all_cons v_16 (all_cons v_17 (all_cons v_18 (all_cons v_19 (all_cons v_20 (all_cons v_21 (all_cons v_22 (all_cons v_23 (all_cons v_24 (all_cons v_25 (all_cons v_26 (all_cons v_27 (all_cons v_28 (all_cons v_29 (all_cons v_30 (all_cons v_31 (all_cons v_32 (all_cons v_33 (all_cons v_34 (all_cons v_35 (all_cons v_36 (all_cons v_37 (all_cons v_38 (all_cons v_39 (all_cons v_40 (all_cons v_41 (all_cons v_42 (all_cons v_43 (all_cons v_44 (all_cons v_45 (all_cons v_46 (all_cons v_47 (all_cons v_48 (all_cons v_49 (all_cons v_50 (all_cons v_51 (all_cons v_52 (all_cons v_53 (all_cons v_54 (all_cons v_55 (all_cons v_56 (all_cons v_57 (all_cons v_58 (all_cons v_59 (all_cons v_60 (all_cons v_61 (all_cons v_62 (all_cons v_63 (all_cons v_64 (all_cons v_65 (all_cons v_66 (all_cons v_67 (all_cons v_68 (all_cons v_69 (all_cons v_70 (all_cons v_71 (all_cons v_72 (all_cons v_73 (all_cons v_74 (all_cons v_75 (all_cons v_76 (all_cons v_77 (all_cons v_78 (all_cons v_79 (all_cons v_80 (all_cons v_81 (all_cons v_82 (all_cons v_83 (all_cons v_84 (all_cons v_85 (all_cons v_86 (all_cons v_87 (all_cons v_88 (all_cons v_89 (all_cons v_90 (all_cons v_91 (all_cons v_92 (all_cons v_93 (all_cons v_94 (all_cons v_95 (all_cons v_96 (all_cons v_97 (all_cons v_98 (all_cons v_99 (all_cons v_100 (all_cons v_101 (all_cons v_102 (all_cons v_103 (all_cons v_104 (all_cons v_105 (all_cons v_106 (all_cons v_107 (all_cons v_108 (all_cons v_109 (all_cons v_110 (all_cons v_111 (all_cons v_112 (all_cons v_113 (all_cons v_114 (all_cons v_115 (all_cons v_116 (all_cons v_117 (all_cons v_118 (all_cons v_119 (all_cons v_120 (all_cons v_121 (all_cons v_122 (all_cons v_123 (all_cons v_124 (all_cons v_125 (all_cons v_126 (all_cons v_127 (all_cons v_128 (all_cons v_129 (all_cons v_130 (all_cons v_131 (all_cons v_132 (all_cons v_133 (all_cons v_134 (all_cons v_135 (all_cons v_136 (all_cons v_137 (all_cons v_138 (all_cons v_139 (all_cons v_140 (all_cons v_141 (all_cons v_142 (all_cons v_143 (all_cons v_144 (all_cons v_145 (all_cons v_146 (all_cons v_147 (all_cons v_148 (all_cons v_149 (all_cons v_150 (all_cons v_151 (all_cons v_152 (all_cons v_153 (all_cons v_154 (all_cons v_155 (all_cons v_156 (all_cons v_157 (all_cons v_158 (all_cons v_159 (all_cons v_160 (all_cons v_161 (all_cons v_162 (all_cons v_163 (all_cons v_164 (all_cons v_165 (all_cons v_166 (all_cons v_167 (all_cons v_168 (all_cons v_169 (all_cons v_170 (all_cons v_171 (all_cons v_172 (all_cons v_173 (all_cons v_174 (all_cons v_175 (all_cons v_176 (all_cons v_177 (all_cons v_178 (all_cons v_179 (all_cons v_180 (all_cons v_181 (all_cons v_182 (all_cons v_183 (all_cons v_184 (all_cons v_185 (all_cons v_186 (all_cons v_187 (all_cons v_188 (all_nil))))))))))))))))))))))))))))))))))))))))))))))))))))))))))))))))))))))))))))))))))))))))))))))))))))))))))))))))))))))))))))))))))))))))))))))))))))))))))))))))))))))))))))))))))))))))))))))
end Go.Proofs.Ythenenacmiiphaa.oct
