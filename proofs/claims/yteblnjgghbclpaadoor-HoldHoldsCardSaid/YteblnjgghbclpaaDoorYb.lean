/- Layer hold: adding and ending, what is known behind. No condition. -/
import Derived.Test.YteblnjgghbclpaaDoorYa
set_option linter.unusedVariables false
set_option linter.unusedSimpArgs false
set_option linter.deprecated false
namespace Go.Proofs.YteblnjgghbclpaaDoor.hold
open Go Go.Proofs.YteblnjgghbclpaaDoor.Sx
theorem ex_k : ∃ k : Nat, k = 10000 := ⟨_, rfl⟩
noncomputable section
def bigK : Nat := ex_k.choose
theorem bigK_is : bigK = 10000 := ex_k.choose_spec
def msH (n i a b : Nat) : Nat := (n - i) * bigK - a * 100 - b
def nilS : SV := .const (.slice none 0 0)
def CUT : LE := cutG (.rom 0)
def rowC : SObj := .rowl CUT (.len CUT) ks3 68 1 3
def preE : List BE := [rightF (.rom 0), .not (.le (ln 0) F2), .le (.cel .i64 (.rom 0) F2 1) (xv 2)]
def cEndF : Ctr := ⟨45, [sl0 0, iv 1, iv 2], r3, .le (.lit 2) (ln 0) :: .le (ln 0) (.lit 1000) :: preE, .tup [.sll 0 1 3 (.lit 0) (.len CUT) none, .int .i64 (.lit 0)], [(0, rowC)], 2, [.eq (.len CUT) (.sub (ln 0) (.lit 1)), .le (.len CUT) (.lit 1000), rightF CUT]⟩
def cEnd1 : Ctr := ⟨45, [sl0 0, iv 1, iv 2], r3, .le (.lit 1) (ln 0) :: .le (ln 0) (.lit 1) :: preE, .tup [nilS, .int .i64 (.lit 0)], [], 0, []⟩
def oneE : LE := .one (.int .i64 (xv 1) (.int .i64 (xv 2) (.int .i64 (xv 3) .nil)))
def rowO : SObj := .rowl oneE (.len oneE) ks3 68 1 3
def nilR : BE := rightF .nil
def cAddN : Ctr := ⟨39, [nilS, pHold], [], [nilR, .fn 5 (.lst .nil (.int .i64 (xv 3) .nil)), .le (.lit 1) (xv 3), .le (xv 3) (.lit 5), mayF (xv 1) (xv 2) (xv 3)], .tup [.sll 0 1 3 (.lit 0) (.len oneE) none, .int .i64 (.lit 0)], [(0, rowO)], 2, [rightF oneE, .not (.le (.len oneE) (F2a oneE)), .le (.cel .i64 oneE (F2a oneE) 1) (xv 2), .le (.lit 0) (F2a oneE)]⟩
def cHolds : Ctr := ⟨13, [sl0 0], r3, [nilR, .le (.lit 1) (ln 0)], .bool (.lit true), [], 0, []⟩
def cHolds0 : Ctr := ⟨13, [.rom 0 (.lit 0) (.lit 0) none], r3, [nilR], .bool (.lit true), [], 0, []⟩
end
theorem post_addN : PostOk Φ cAddN := by
  intro ρ hF hp
  have hp : Holds ρ [_, _, _, _, _] := hp
  simp only [h_nil, h_cons, d_le, d_fn, d_eq, IE.den, LE.den, AL.den, mayF, xv, hF, pb2, and_true] at hp
  obtain ⟨_, _, h4, h5, h6⟩ := hp
  have o := one_of h6
  have hr : rightL ([] : LV) = true := rfl
  have g1 : rightL (hL (ρ.i .i64 1) (ρ.i .i64 2) (ρ.i .i64 3)) = true := right_ins o hr rfl rfl
  have g2 : findN (hL (ρ.i .i64 1) (ρ.i .i64 2) (ρ.i .i64 3)) (ρ.i .i64 1) 1 = 0 := find_ins o (R := []) rfl
  have g5 := o.hu
  have eA : LE.den ρ oneE = hL (ρ.i .i64 1) (ρ.i .i64 2) (ρ.i .i64 3) := rfl
  have hl : (hL (ρ.i .i64 1) (ρ.i .i64 2) (ρ.i .i64 3)).length = 1 := rfl
  generalize hL (ρ.i .i64 1) (ρ.i .i64 2) (ρ.i .i64 3) = A at *
  show Holds ρ [_, _, _, _]
  generalize oneE = E at eA ⊢
  simp only [h_nil, h_cons, d_le, d_eq, d_not, d_fn, d_leq, IE.den, LE.den, AL.den, rightF, F2a, ln, lenV, xv, hF, pb4, pi2, and_true, eA, hl, g2]
  have c0 : clampK .i64 ((0 : Nat) : Int) = 0 := rfl
  simp only [c0]
  refine ⟨g1, by omega, ?_, by omega⟩
  have g6 : clampK .i64 (intV (celV A 0 1)) = ρ.i .i64 2 := g5
  rw [g6]; exact Int.le_refl _
theorem cut_put {R Z X : LV} {f n : Nat} (hf : f < R.length) (hZ : Z.length = R.length - 1) (hX : X = R.drop (f + 1)) (hn : n = R.length - 1) : ((((Z.take 0 ++ R.take f) ++ Z.drop f).take f) ++ X) ++ ((Z.take 0 ++ R.take f) ++ Z.drop f).drop n = R.take f ++ R.drop (f + 1) := by
  have l1 : (R.take f).length = f := by rw [List.length_take]; omega
  have e1 : ((Z.take 0 ++ R.take f) ++ Z.drop f).take f = R.take f := by
    rw [List.take_zero, List.nil_append, List.take_append_of_le_length (by omega), List.take_of_length_le (by omega)]
  have e2 : ((Z.take 0 ++ R.take f) ++ Z.drop f).drop n = [] := List.drop_eq_nil_of_le (by rw [List.take_zero, List.nil_append, List.length_append, List.length_drop, l1]; omega)
  rw [e1, e2, hX, List.append_nil]
theorem post_endF : PostOk Φ cEndF := by
  intro ρ hF hp
  have hp : Holds ρ [_, _, _, _, _] := hp
  simp only [preE, h_nil, h_cons, d_le, d_not, d_fn, d_eq, IE.den, LE.den, AL.den, rightF, F2, ln, lenV, xv, hF, pb2, pb4, pb5, pi2, and_true] at hp
  obtain ⟨h1, h2, h3, h4, h5⟩ := hp
  have b : findN (ρ.z.rl 0) (ρ.i .i64 1) (ρ.z.rl 0).length ≤ (ρ.z.rl 0).length := first_le _ _
  have cf : clampK .i64 ((findN (ρ.z.rl 0) (ρ.i .i64 1) (ρ.z.rl 0).length : Nat) : Int) = ((findN (ρ.z.rl 0) (ρ.i .i64 1) (ρ.z.rl 0).length : Nat) : Int) := clampS (by omega) (by omega)
  rw [cf] at h4
  have hf : findN (ρ.z.rl 0) (ρ.i .i64 1) (ρ.z.rl 0).length < (ρ.z.rl 0).length := by omega
  have g1 := right_cut h3 hf
  have g3 := cut_len hf
  have eA : LE.den ρ CUT = cutL (ρ.z.rl 0) (findN (ρ.z.rl 0) (ρ.i .i64 1) (ρ.z.rl 0).length) := by
    simp only [CUT, cutG, IE.den, LE.den, AL.den, xv, hF, pl4]
  generalize hA : cutL (ρ.z.rl 0) (findN (ρ.z.rl 0) (ρ.i .i64 1) (ρ.z.rl 0).length) = A at *
  show Holds ρ [_, _, _]
  generalize CUT = E at eA ⊢
  simp only [h_nil, h_cons, d_le, d_eq, d_not, d_fn, d_leq, IE.den, LE.den, AL.den, rightF, F2, ln, lenV, xv, hF, pb4, pi2, and_true, cf, eA]
  exact ⟨by omega, by omega, g1⟩
end Go.Proofs.YteblnjgghbclpaaDoor.hold
