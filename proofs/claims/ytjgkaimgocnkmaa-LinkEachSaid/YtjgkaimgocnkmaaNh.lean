/- Layer link: the law LinkEach, told. No condition. -/
import Derived.Test.YtjgkaimgocnkmaaNf
import Derived.Test.YtjgkaimgocnkmaaNg
import Derived.Test.YtjgkaimgocnkmaaNi
set_option linter.unusedVariables false
set_option linter.unusedSimpArgs false
set_option linter.deprecated false
namespace Go.Proofs.Ytjgkaimgocnkmaa.lnk
open Go Go.Proofs.Ytjgkaimgocnkmaa.Sx
theorem vceach0_0 : VC TTeach inveach mseach 0 (startF 13 cEach.pat (.lit true :: cEach.pre)) weach0_0 := by
  intro ρ kn hi hp
  have hF : ρ.z.F = lnk.Φ := kn.F
  simp only [h_nil, h_cons, d_le, d_eq, d_not, d_var, d_lit, d_cel, d_leq, d_fn, d_and, d_iff, IE.den, LE.den, AL.den, lenV, true_and, and_true, pceach0_2, pceach0_1, pceach0_0, hF, pb1, pb2, pb4, pb5, pb6] at hp
  obtain ⟨p1, p2, p3, p4⟩ := hp
  refine (show ((0 : Int) = 0 ∧ (ρ.z.rl 2).length ≤ 40) ∧ ((5 * (ρ.z.rl 2).length + 19 : Nat) < 5 * (ρ.z.rl 2).length + 20) from ?_)
  exact ⟨⟨rfl, by omega⟩, by omega⟩
def iveach1 (ρ : Rho) : Prop := (ρ.i .i64 1000) = 0 ∧ (ρ.z.rl 2).length ≤ 40
theorem vceach1_2 : VC TTeach inveach mseach 1 teach1 weach1_2 := by
  intro ρ kn hi hp
  have hi : iveach1 ρ := hi
  unfold iveach1 at hi
  have hF : ρ.z.F = lnk.Φ := kn.F
  simp only [h_nil, h_cons, d_le, d_eq, d_not, d_var, d_lit, d_cel, d_leq, d_fn, d_and, d_iff, IE.den, LE.den, AL.den, lenV, true_and, and_true, pceach1_43, pceach1_42, pceach1_40, pceach1_35, pceach1_33, pceach1_31, pceach1_27, pceach1_23, pceach1_15, pceach1_7, pceach1_3, pceach1_1, pceach1_0, hF, pb1, pb2, pb4, pb5, pb6] at hp
  obtain ⟨p1, p2, p3, p4, p5, p6, p7, p8, p9, p10, p11, p12, p13, p14, p15, p16, p17, p18, p19, p20, p21⟩ := hp
  refine (show (Gone (ρ.z.rl 2) (firstPair (ρ.z.rl 1) (ρ.i .i64 2)) (ρ.z.rl 1) (ρ.i .i64 2) [] ((ρ.i .i64 1000) + 1) ∧ (ρ.z.rl 2).length ≤ 40) ∧ ((3 * (ρ.z.rl 2).length + 10 + ((ρ.z.rl 2).length - (ρ.i .i64 1000).toNat) : Nat) < 5 * (ρ.z.rl 2).length + 19) from ?_)
  obtain ⟨h0, hb⟩ := hi
  have g : Gone (ρ.z.rl 2) (firstPair (ρ.z.rl 1) (ρ.i .i64 2)) (ρ.z.rl 1) (ρ.i .i64 2) [] (ρ.i .i64 1000) := by rw [h0]; exact gone0
  exact ⟨⟨(gone_skip g (by omega) rfl rfl (by assumption) (by omega)).1, hb⟩, by omega⟩
theorem vceach1_3 : VC TTeach inveach mseach 1 teach1 weach1_3 := by
  intro ρ kn hi hp
  have hi : iveach1 ρ := hi
  unfold iveach1 at hi
  have hF : ρ.z.F = lnk.Φ := kn.F
  simp only [h_nil, h_cons, d_le, d_eq, d_not, d_var, d_lit, d_cel, d_leq, d_fn, d_and, d_iff, IE.den, LE.den, AL.den, lenV, true_and, and_true, pceach1_43, pceach1_42, pceach1_40, pceach1_35, pceach1_33, pceach1_31, pceach1_27, pceach1_23, pceach1_15, pceach1_7, pceach1_3, pceach1_1, pceach1_0, hF, pb1, pb2, pb4, pb5, pb6] at hp
  obtain ⟨p1, p2, p3, p4, p5, p6, p7, p8, p9, p10, p11, p12, p13, p14, p15, p16, p17, p18, p19, p20, p21, p22⟩ := hp
  refine (show (Gone (ρ.z.rl 2) (firstPair (ρ.z.rl 1) (ρ.i .i64 2)) ((ρ.z.rl 1).set (ρ.i .i64 2).toNat [Go.Value.int .i64 (clampK .i64 (intV (celV (ρ.z.rl 2) (ρ.i .i64 1000) 0))), Go.Value.int .i64 (clampK .i64 (intV (celV (ρ.z.rl 2) (ρ.i .i64 1000) 1)))]) (ρ.i .i64 2) ([[Go.Value.int .i64 (ρ.i .i64 1000)]] : LV) ((ρ.i .i64 1000) + 1) ∧ (ρ.z.rl 2).length ≤ 40) ∧ ((3 * (ρ.z.rl 2).length + 10 + ((ρ.z.rl 2).length - (ρ.i .i64 1000).toNat) : Nat) < 5 * (ρ.z.rl 2).length + 19) from ?_)
  obtain ⟨h0, hb⟩ := hi
  have g : Gone (ρ.z.rl 2) (firstPair (ρ.z.rl 1) (ρ.i .i64 2)) (ρ.z.rl 1) (ρ.i .i64 2) [] (ρ.i .i64 1000) := by rw [h0]; exact gone0
  exact ⟨⟨(gone_take g (by omega) (by omega) (by omega) rfl rfl (by assumption) (by omega)).1, hb⟩, by omega⟩
theorem vceach1_4 : VC TTeach inveach mseach 1 teach1 weach1_4 := by
  intro ρ kn hi hp
  have hi : iveach1 ρ := hi
  unfold iveach1 at hi
  have hF : ρ.z.F = lnk.Φ := kn.F
  simp only [h_nil, h_cons, d_le, d_eq, d_not, d_var, d_lit, d_cel, d_leq, d_fn, d_and, d_iff, IE.den, LE.den, AL.den, lenV, true_and, and_true, pceach1_42, pceach1_40, pceach1_35, pceach1_33, pceach1_31, pceach1_27, pceach1_23, pceach1_15, pceach1_7, pceach1_3, pceach1_1, pceach1_0, hF, pb1, pb2, pb4, pb5, pb6] at hp
  obtain ⟨p1, p2, p3, p4, p5, p6, p7, p8, p9, p10, p11, p12, p13, p14, p15, p16, p17, p18, p19, p20⟩ := hp
  refine (show (Gone (ρ.z.rl 2) (firstPair (ρ.z.rl 1) (ρ.i .i64 2)) (ρ.z.rl 1) (ρ.i .i64 2) [] ((ρ.i .i64 1000) + 1) ∧ (ρ.z.rl 2).length ≤ 40) ∧ ((3 * (ρ.z.rl 2).length + 10 + ((ρ.z.rl 2).length - (ρ.i .i64 1000).toNat) : Nat) < 5 * (ρ.z.rl 2).length + 19) from ?_)
  obtain ⟨h0, hb⟩ := hi
  have g : Gone (ρ.z.rl 2) (firstPair (ρ.z.rl 1) (ρ.i .i64 2)) (ρ.z.rl 1) (ρ.i .i64 2) [] (ρ.i .i64 1000) := by rw [h0]; exact gone0
  exact ⟨⟨(gone_skip g (by omega) rfl rfl (by assumption) (by omega)).1, hb⟩, by omega⟩
theorem vceach1_5 : VC TTeach inveach mseach 1 teach1 weach1_5 := by
  intro ρ kn hi hp
  have hi : iveach1 ρ := hi
  unfold iveach1 at hi
  have hF : ρ.z.F = lnk.Φ := kn.F
  simp only [h_nil, h_cons, d_le, d_eq, d_not, d_var, d_lit, d_cel, d_leq, d_fn, d_and, d_iff, IE.den, LE.den, AL.den, lenV, true_and, and_true, pceach1_40, pceach1_35, pceach1_33, pceach1_31, pceach1_27, pceach1_23, pceach1_15, pceach1_7, pceach1_3, pceach1_1, pceach1_0, hF, pb1, pb2, pb4, pb5, pb6] at hp
  obtain ⟨p1, p2, p3, p4, p5, p6, p7, p8, p9, p10, p11, p12, p13, p14, p15, p16, p17, p18, p19, p20⟩ := hp
  refine (show (Gone (ρ.z.rl 2) (firstPair (ρ.z.rl 1) (ρ.i .i64 2)) ((ρ.z.rl 1).set (ρ.i .i64 2).toNat [Go.Value.int .i64 (clampK .i64 (intV (celV (ρ.z.rl 2) (ρ.i .i64 1000) 0))), Go.Value.int .i64 (clampK .i64 (intV (celV (ρ.z.rl 2) (ρ.i .i64 1000) 1)))]) (ρ.i .i64 2) ([[Go.Value.int .i64 (ρ.i .i64 1000)]] : LV) ((ρ.i .i64 1000) + 1) ∧ (ρ.z.rl 2).length ≤ 40) ∧ ((3 * (ρ.z.rl 2).length + 10 + ((ρ.z.rl 2).length - (ρ.i .i64 1000).toNat) : Nat) < 5 * (ρ.z.rl 2).length + 19) from ?_)
  obtain ⟨h0, hb⟩ := hi
  have g : Gone (ρ.z.rl 2) (firstPair (ρ.z.rl 1) (ρ.i .i64 2)) (ρ.z.rl 1) (ρ.i .i64 2) [] (ρ.i .i64 1000) := by rw [h0]; exact gone0
  exact ⟨⟨(gone_take g (by omega) (by omega) (by omega) rfl rfl (by assumption) (by omega)).1, hb⟩, by omega⟩
theorem vceach1_10 : VC TTeach inveach mseach 1 teach1 weach1_10 := by
  intro ρ kn hi hp
  have hi : iveach1 ρ := hi
  unfold iveach1 at hi
  have hF : ρ.z.F = lnk.Φ := kn.F
  simp only [h_nil, h_cons, d_le, d_eq, d_not, d_var, d_lit, d_cel, d_leq, d_fn, d_and, d_iff, IE.den, LE.den, AL.den, lenV, true_and, and_true, pceach1_37, pceach1_34, pceach1_31, pceach1_27, pceach1_23, pceach1_15, pceach1_7, pceach1_3, pceach1_1, pceach1_0, hF, pb1, pb2, pb4, pb5, pb6] at hp
  obtain ⟨p1, p2, p3, p4, p5, p6, p7, p8, p9, p10, p11, p12, p13, p14, p15, p16, p17, p18⟩ := hp
  refine (show (Over (ρ.z.rl 2) (firstPair (ρ.z.rl 1) (ρ.i .i64 2)) (ρ.z.rl 1) (ρ.i .i64 2) [] 0 (0 : Int) ∧ (ρ.z.rl 2).length ≤ 40) ∧ (((ρ.z.rl 2).length + 5 + ((ρ.z.rl 2).length - (0 : Int).toNat) : Nat) < 5 * (ρ.z.rl 2).length + 19) from ?_)
  obtain ⟨h0, hb⟩ := hi
  have g : Gone (ρ.z.rl 2) (firstPair (ρ.z.rl 1) (ρ.i .i64 2)) (ρ.z.rl 1) (ρ.i .i64 2) [] (ρ.i .i64 1000) := by rw [h0]; exact gone0
  first
    | (exfalso; omega)
    | exact ⟨⟨over0 (stop_of g (.inr (stN_f (by omega) (by assumption)))), hb⟩, by omega⟩
    | exact ⟨⟨over0 (stop_of g (.inl (by omega))), hb⟩, by omega⟩
def iveach2 (ρ : Rho) : Prop := Gone (ρ.z.rl 2) (firstPair (ρ.z.rl 1) (ρ.i .i64 2)) (ρ.z.rl 1) (ρ.i .i64 2) [] ((ρ.i .i64 1000) + 1) ∧ (ρ.z.rl 2).length ≤ 40
theorem vceach2_0 : VC TTeach inveach mseach 2 teach2 weach2_0 := by
  intro ρ kn hi hp
  have hi : iveach2 ρ := hi
  unfold iveach2 at hi
  have hF : ρ.z.F = lnk.Φ := kn.F
  simp only [h_nil, h_cons, d_le, d_eq, d_not, d_var, d_lit, d_cel, d_leq, d_fn, d_and, d_iff, IE.den, LE.den, AL.den, lenV, true_and, and_true, pceach2_0, hF, pb1, pb2, pb4, pb5, pb6] at hp
  obtain ⟨p1, p2, p3, p4, p5, p6, p7, p8, p9, p10, p11, p12, p13, p14, p15, p16⟩ := hp
  refine (show (Over (ρ.z.rl 2) (firstPair (ρ.z.rl 1) (ρ.i .i64 2)) (ρ.z.rl 1) (ρ.i .i64 2) [] 0 (0 : Int) ∧ (ρ.z.rl 2).length ≤ 40) ∧ (((ρ.z.rl 2).length + 5 + ((ρ.z.rl 2).length - (0 : Int).toNat) : Nat) < 3 * (ρ.z.rl 2).length + 10 + ((ρ.z.rl 2).length - (ρ.i .i64 1000).toNat)) from ?_)
  obtain ⟨g, hb⟩ := hi
  first
    | (exfalso; omega)
    | exact ⟨⟨over0 (stop_of g (.inr (stN_f (by omega) (by assumption)))), hb⟩, by omega⟩
    | exact ⟨⟨over0 (stop_of g (.inl (by omega))), hb⟩, by omega⟩
theorem vceach2_1 : VC TTeach inveach mseach 2 teach2 weach2_1 := by
  intro ρ kn hi hp
  have hi : iveach2 ρ := hi
  unfold iveach2 at hi
  have hF : ρ.z.F = lnk.Φ := kn.F
  simp only [h_nil, h_cons, d_le, d_eq, d_not, d_var, d_lit, d_cel, d_leq, d_fn, d_and, d_iff, IE.den, LE.den, AL.den, lenV, true_and, and_true, pceach2_4, pceach2_3, pceach2_2, pceach2_1, pceach2_0, hF, pb1, pb2, pb4, pb5, pb6] at hp
  obtain ⟨p1, p2, p3, p4, p5, p6, p7, p8, p9, p10, p11, p12, p13, p14, p15, p16, p17, p18, p19, p20⟩ := hp
  refine (show (Gone (ρ.z.rl 2) (firstPair (ρ.z.rl 1) (ρ.i .i64 2)) (ρ.z.rl 1) (ρ.i .i64 2) [] (((ρ.i .i64 1000) + (1 : Int)) + 1) ∧ (ρ.z.rl 2).length ≤ 40) ∧ ((3 * (ρ.z.rl 2).length + 10 + ((ρ.z.rl 2).length - ((ρ.i .i64 1000) + (1 : Int)).toNat) : Nat) < 3 * (ρ.z.rl 2).length + 10 + ((ρ.z.rl 2).length - (ρ.i .i64 1000).toNat)) from ?_)
  obtain ⟨g, hb⟩ := hi
  exact ⟨⟨(gone_skip g (by omega) rfl rfl (by assumption) (by omega)).1, hb⟩, by omega⟩
theorem vceach2_2 : VC TTeach inveach mseach 2 teach2 weach2_2 := by
  intro ρ kn hi hp
  have hi : iveach2 ρ := hi
  unfold iveach2 at hi
  have hF : ρ.z.F = lnk.Φ := kn.F
  simp only [h_nil, h_cons, d_le, d_eq, d_not, d_var, d_lit, d_cel, d_leq, d_fn, d_and, d_iff, IE.den, LE.den, AL.den, lenV, true_and, and_true, pceach2_4, pceach2_3, pceach2_2, pceach2_1, pceach2_0, hF, pb1, pb2, pb4, pb5, pb6] at hp
  obtain ⟨p1, p2, p3, p4, p5, p6, p7, p8, p9, p10, p11, p12, p13, p14, p15, p16, p17, p18, p19, p20, p21⟩ := hp
  refine (show (Gone (ρ.z.rl 2) (firstPair (ρ.z.rl 1) (ρ.i .i64 2)) ((ρ.z.rl 1).set (ρ.i .i64 2).toNat [Go.Value.int .i64 (clampK .i64 (intV (celV (ρ.z.rl 2) ((ρ.i .i64 1000) + (1 : Int)) 0))), Go.Value.int .i64 (clampK .i64 (intV (celV (ρ.z.rl 2) ((ρ.i .i64 1000) + (1 : Int)) 1)))]) (ρ.i .i64 2) ([[Go.Value.int .i64 ((ρ.i .i64 1000) + (1 : Int))]] : LV) (((ρ.i .i64 1000) + (1 : Int)) + 1) ∧ (ρ.z.rl 2).length ≤ 40) ∧ ((3 * (ρ.z.rl 2).length + 10 + ((ρ.z.rl 2).length - ((ρ.i .i64 1000) + (1 : Int)).toNat) : Nat) < 3 * (ρ.z.rl 2).length + 10 + ((ρ.z.rl 2).length - (ρ.i .i64 1000).toNat)) from ?_)
  obtain ⟨g, hb⟩ := hi
  exact ⟨⟨(gone_take g (by omega) (by omega) (by omega) rfl rfl (by assumption) (by omega)).1, hb⟩, by omega⟩
theorem vceach2_3 : VC TTeach inveach mseach 2 teach2 weach2_3 := by
  intro ρ kn hi hp
  have hi : iveach2 ρ := hi
  unfold iveach2 at hi
  have hF : ρ.z.F = lnk.Φ := kn.F
  simp only [h_nil, h_cons, d_le, d_eq, d_not, d_var, d_lit, d_cel, d_leq, d_fn, d_and, d_iff, IE.den, LE.den, AL.den, lenV, true_and, and_true, pceach2_3, pceach2_2, pceach2_1, pceach2_0, hF, pb1, pb2, pb4, pb5, pb6] at hp
  obtain ⟨p1, p2, p3, p4, p5, p6, p7, p8, p9, p10, p11, p12, p13, p14, p15, p16, p17, p18, p19⟩ := hp
  refine (show (Gone (ρ.z.rl 2) (firstPair (ρ.z.rl 1) (ρ.i .i64 2)) (ρ.z.rl 1) (ρ.i .i64 2) [] (((ρ.i .i64 1000) + (1 : Int)) + 1) ∧ (ρ.z.rl 2).length ≤ 40) ∧ ((3 * (ρ.z.rl 2).length + 10 + ((ρ.z.rl 2).length - ((ρ.i .i64 1000) + (1 : Int)).toNat) : Nat) < 3 * (ρ.z.rl 2).length + 10 + ((ρ.z.rl 2).length - (ρ.i .i64 1000).toNat)) from ?_)
  obtain ⟨g, hb⟩ := hi
  exact ⟨⟨(gone_skip g (by omega) rfl rfl (by assumption) (by omega)).1, hb⟩, by omega⟩
theorem vceach2_4 : VC TTeach inveach mseach 2 teach2 weach2_4 := by
  intro ρ kn hi hp
  have hi : iveach2 ρ := hi
  unfold iveach2 at hi
  have hF : ρ.z.F = lnk.Φ := kn.F
  simp only [h_nil, h_cons, d_le, d_eq, d_not, d_var, d_lit, d_cel, d_leq, d_fn, d_and, d_iff, IE.den, LE.den, AL.den, lenV, true_and, and_true, pceach2_2, pceach2_1, pceach2_0, hF, pb1, pb2, pb4, pb5, pb6] at hp
  obtain ⟨p1, p2, p3, p4, p5, p6, p7, p8, p9, p10, p11, p12, p13, p14, p15, p16, p17, p18, p19⟩ := hp
  refine (show (Gone (ρ.z.rl 2) (firstPair (ρ.z.rl 1) (ρ.i .i64 2)) ((ρ.z.rl 1).set (ρ.i .i64 2).toNat [Go.Value.int .i64 (clampK .i64 (intV (celV (ρ.z.rl 2) ((ρ.i .i64 1000) + (1 : Int)) 0))), Go.Value.int .i64 (clampK .i64 (intV (celV (ρ.z.rl 2) ((ρ.i .i64 1000) + (1 : Int)) 1)))]) (ρ.i .i64 2) ([[Go.Value.int .i64 ((ρ.i .i64 1000) + (1 : Int))]] : LV) (((ρ.i .i64 1000) + (1 : Int)) + 1) ∧ (ρ.z.rl 2).length ≤ 40) ∧ ((3 * (ρ.z.rl 2).length + 10 + ((ρ.z.rl 2).length - ((ρ.i .i64 1000) + (1 : Int)).toNat) : Nat) < 3 * (ρ.z.rl 2).length + 10 + ((ρ.z.rl 2).length - (ρ.i .i64 1000).toNat)) from ?_)
  obtain ⟨g, hb⟩ := hi
  exact ⟨⟨(gone_take g (by omega) (by omega) (by omega) rfl rfl (by assumption) (by omega)).1, hb⟩, by omega⟩
theorem vceach2_5 : VC TTeach inveach mseach 2 teach2 weach2_5 := by
  intro ρ kn hi hp
  have hi : iveach2 ρ := hi
  unfold iveach2 at hi
  have hF : ρ.z.F = lnk.Φ := kn.F
  simp only [h_nil, h_cons, d_le, d_eq, d_not, d_var, d_lit, d_cel, d_leq, d_fn, d_and, d_iff, IE.den, LE.den, AL.den, lenV, true_and, and_true, pceach2_1, pceach2_0, hF, pb1, pb2, pb4, pb5, pb6] at hp
  obtain ⟨p1, p2, p3, p4, p5, p6, p7, p8, p9, p10, p11, p12, p13, p14, p15, p16, p17⟩ := hp
  refine (show (Over (ρ.z.rl 2) (firstPair (ρ.z.rl 1) (ρ.i .i64 2)) (ρ.z.rl 1) (ρ.i .i64 2) [] 0 (0 : Int) ∧ (ρ.z.rl 2).length ≤ 40) ∧ (((ρ.z.rl 2).length + 5 + ((ρ.z.rl 2).length - (0 : Int).toNat) : Nat) < 3 * (ρ.z.rl 2).length + 10 + ((ρ.z.rl 2).length - (ρ.i .i64 1000).toNat)) from ?_)
  obtain ⟨g, hb⟩ := hi
  first
    | (exfalso; omega)
    | exact ⟨⟨over0 (stop_of g (.inr (stN_f (by omega) (by assumption)))), hb⟩, by omega⟩
    | exact ⟨⟨over0 (stop_of g (.inl (by omega))), hb⟩, by omega⟩
def iveach3 (ρ : Rho) : Prop := Gone (ρ.z.rl 2) (firstPair (ρ.z.rl 1) (ρ.i .i64 2)) (ρ.l 1004) (ρ.i .i64 2) (ρ.l 1002) ((ρ.i .i64 1000) + 1) ∧ (ρ.z.rl 2).length ≤ 40
theorem vceach3_0 : VC TTeach inveach mseach 3 teach3 weach3_0 := by
  intro ρ kn hi hp
  have hi : iveach3 ρ := hi
  unfold iveach3 at hi
  have hF : ρ.z.F = lnk.Φ := kn.F
  simp only [h_nil, h_cons, d_le, d_eq, d_not, d_var, d_lit, d_cel, d_leq, d_fn, d_and, d_iff, IE.den, LE.den, AL.den, lenV, true_and, and_true, pceach3_0, hF, pb1, pb2, pb4, pb5, pb6] at hp
  obtain ⟨p1, p2, p3, p4, p5, p6, p7, p8, p9, p10, p11, p12, p13, p14, p15, p16, p17, p18, p19⟩ := hp
  refine (show (Over (ρ.z.rl 2) (firstPair (ρ.z.rl 1) (ρ.i .i64 2)) (ρ.z.rl 1) (ρ.i .i64 2) (ρ.l 1002) (0 : Int) (0 : Int) ∧ ((0 : Int) = 0 ∨ (0 : Int) < (ρ.i .i64 3)) ∧ (ρ.z.rl 2).length ≤ 40) ∧ (((ρ.z.rl 2).length + 5 + ((ρ.z.rl 2).length - (0 : Int).toNat) : Nat) < 3 * (ρ.z.rl 2).length + 10 + ((ρ.z.rl 2).length - (ρ.i .i64 1000).toNat)) from ?_)
  obtain ⟨g, hb⟩ := hi
  first
    | (exfalso; omega)
    | exact ⟨⟨over0 (stop_of g (.inr (stN_f (by omega) (by assumption)))), (by first | exact .inl rfl | exact .inl trivial), hb⟩, by omega⟩
    | exact ⟨⟨over0 (stop_of g (.inl (by omega))), (by first | exact .inl rfl | exact .inl trivial), hb⟩, by omega⟩
theorem vceach3_1 : VC TTeach inveach mseach 3 teach3 weach3_1 := by
  intro ρ kn hi hp
  have hi : iveach3 ρ := hi
  unfold iveach3 at hi
  have hF : ρ.z.F = lnk.Φ := kn.F
  simp only [h_nil, h_cons, d_le, d_eq, d_not, d_var, d_lit, d_cel, d_leq, d_fn, d_and, d_iff, IE.den, LE.den, AL.den, lenV, true_and, and_true, pceach3_4, pceach3_3, pceach3_2, pceach3_1, pceach3_0, hF, pb1, pb2, pb4, pb5, pb6] at hp
  obtain ⟨p1, p2, p3, p4, p5, p6, p7, p8, p9, p10, p11, p12, p13, p14, p15, p16, p17, p18, p19, p20, p21, p22, p23⟩ := hp
  refine (show (Gone (ρ.z.rl 2) (firstPair (ρ.z.rl 1) (ρ.i .i64 2)) (ρ.l 1004) (ρ.i .i64 2) (ρ.l 1002) (((ρ.i .i64 1000) + (1 : Int)) + 1) ∧ (ρ.z.rl 2).length ≤ 40) ∧ ((3 * (ρ.z.rl 2).length + 10 + ((ρ.z.rl 2).length - ((ρ.i .i64 1000) + (1 : Int)).toNat) : Nat) < 3 * (ρ.z.rl 2).length + 10 + ((ρ.z.rl 2).length - (ρ.i .i64 1000).toNat)) from ?_)
  obtain ⟨g, hb⟩ := hi
  first | exact ⟨⟨(gone_skip g (by omega) rfl rfl (by assumption) (by omega)).1, hb⟩, by omega⟩ | exact ⟨⟨(gone_take g (by omega) (by omega) (by omega) rfl rfl (by assumption) (by omega)).1, hb⟩, by omega⟩
theorem vceach3_2 : VC TTeach inveach mseach 3 teach3 weach3_2 := by
  intro ρ kn hi hp
  have hi : iveach3 ρ := hi
  unfold iveach3 at hi
  have hF : ρ.z.F = lnk.Φ := kn.F
  simp only [h_nil, h_cons, d_le, d_eq, d_not, d_var, d_lit, d_cel, d_leq, d_fn, d_and, d_iff, IE.den, LE.den, AL.den, lenV, true_and, and_true, pceach3_4, pceach3_3, pceach3_2, pceach3_1, pceach3_0, hF, pb1, pb2, pb4, pb5, pb6] at hp
  obtain ⟨p1, p2, p3, p4, p5, p6, p7, p8, p9, p10, p11, p12, p13, p14, p15, p16, p17, p18, p19, p20, p21, p22, p23, p24⟩ := hp
  refine (show (Gone (ρ.z.rl 2) (firstPair (ρ.z.rl 1) (ρ.i .i64 2)) ((ρ.l 1004).set (ρ.i .i64 2).toNat [Go.Value.int .i64 (clampK .i64 (intV (celV (ρ.z.rl 2) ((ρ.i .i64 1000) + (1 : Int)) 0))), Go.Value.int .i64 (clampK .i64 (intV (celV (ρ.z.rl 2) ((ρ.i .i64 1000) + (1 : Int)) 1)))]) (ρ.i .i64 2) ((ρ.l 1002) ++ ([[Go.Value.int .i64 ((ρ.i .i64 1000) + (1 : Int))]] : LV)) (((ρ.i .i64 1000) + (1 : Int)) + 1) ∧ (ρ.z.rl 2).length ≤ 40) ∧ ((3 * (ρ.z.rl 2).length + 10 + ((ρ.z.rl 2).length - ((ρ.i .i64 1000) + (1 : Int)).toNat) : Nat) < 3 * (ρ.z.rl 2).length + 10 + ((ρ.z.rl 2).length - (ρ.i .i64 1000).toNat)) from ?_)
  obtain ⟨g, hb⟩ := hi
  first | exact ⟨⟨(gone_skip g (by omega) rfl rfl (by assumption) (by omega)).1, hb⟩, by omega⟩ | exact ⟨⟨(gone_take g (by omega) (by omega) (by omega) rfl rfl (by assumption) (by omega)).1, hb⟩, by omega⟩
theorem vceach3_3 : VC TTeach inveach mseach 3 teach3 weach3_3 := by
  intro ρ kn hi hp
  have hi : iveach3 ρ := hi
  unfold iveach3 at hi
  have hF : ρ.z.F = lnk.Φ := kn.F
  simp only [h_nil, h_cons, d_le, d_eq, d_not, d_var, d_lit, d_cel, d_leq, d_fn, d_and, d_iff, IE.den, LE.den, AL.den, lenV, true_and, and_true, pceach3_3, pceach3_2, pceach3_1, pceach3_0, hF, pb1, pb2, pb4, pb5, pb6] at hp
  obtain ⟨p1, p2, p3, p4, p5, p6, p7, p8, p9, p10, p11, p12, p13, p14, p15, p16, p17, p18, p19, p20, p21, p22⟩ := hp
  refine (show (Gone (ρ.z.rl 2) (firstPair (ρ.z.rl 1) (ρ.i .i64 2)) (ρ.l 1004) (ρ.i .i64 2) (ρ.l 1002) (((ρ.i .i64 1000) + (1 : Int)) + 1) ∧ (ρ.z.rl 2).length ≤ 40) ∧ ((3 * (ρ.z.rl 2).length + 10 + ((ρ.z.rl 2).length - ((ρ.i .i64 1000) + (1 : Int)).toNat) : Nat) < 3 * (ρ.z.rl 2).length + 10 + ((ρ.z.rl 2).length - (ρ.i .i64 1000).toNat)) from ?_)
  obtain ⟨g, hb⟩ := hi
  first | exact ⟨⟨(gone_skip g (by omega) rfl rfl (by assumption) (by omega)).1, hb⟩, by omega⟩ | exact ⟨⟨(gone_take g (by omega) (by omega) (by omega) rfl rfl (by assumption) (by omega)).1, hb⟩, by omega⟩
theorem vceach3_4 : VC TTeach inveach mseach 3 teach3 weach3_4 := by
  intro ρ kn hi hp
  have hi : iveach3 ρ := hi
  unfold iveach3 at hi
  have hF : ρ.z.F = lnk.Φ := kn.F
  simp only [h_nil, h_cons, d_le, d_eq, d_not, d_var, d_lit, d_cel, d_leq, d_fn, d_and, d_iff, IE.den, LE.den, AL.den, lenV, true_and, and_true, pceach3_2, pceach3_1, pceach3_0, hF, pb1, pb2, pb4, pb5, pb6] at hp
  obtain ⟨p1, p2, p3, p4, p5, p6, p7, p8, p9, p10, p11, p12, p13, p14, p15, p16, p17, p18, p19, p20, p21, p22⟩ := hp
  refine (show (Gone (ρ.z.rl 2) (firstPair (ρ.z.rl 1) (ρ.i .i64 2)) ((ρ.l 1004).set (ρ.i .i64 2).toNat [Go.Value.int .i64 (clampK .i64 (intV (celV (ρ.z.rl 2) ((ρ.i .i64 1000) + (1 : Int)) 0))), Go.Value.int .i64 (clampK .i64 (intV (celV (ρ.z.rl 2) ((ρ.i .i64 1000) + (1 : Int)) 1)))]) (ρ.i .i64 2) ((ρ.l 1002) ++ ([[Go.Value.int .i64 ((ρ.i .i64 1000) + (1 : Int))]] : LV)) (((ρ.i .i64 1000) + (1 : Int)) + 1) ∧ (ρ.z.rl 2).length ≤ 40) ∧ ((3 * (ρ.z.rl 2).length + 10 + ((ρ.z.rl 2).length - ((ρ.i .i64 1000) + (1 : Int)).toNat) : Nat) < 3 * (ρ.z.rl 2).length + 10 + ((ρ.z.rl 2).length - (ρ.i .i64 1000).toNat)) from ?_)
  obtain ⟨g, hb⟩ := hi
  first | exact ⟨⟨(gone_skip g (by omega) rfl rfl (by assumption) (by omega)).1, hb⟩, by omega⟩ | exact ⟨⟨(gone_take g (by omega) (by omega) (by omega) rfl rfl (by assumption) (by omega)).1, hb⟩, by omega⟩
theorem vceach3_5 : VC TTeach inveach mseach 3 teach3 weach3_5 := by
  intro ρ kn hi hp
  have hi : iveach3 ρ := hi
  unfold iveach3 at hi
  have hF : ρ.z.F = lnk.Φ := kn.F
  simp only [h_nil, h_cons, d_le, d_eq, d_not, d_var, d_lit, d_cel, d_leq, d_fn, d_and, d_iff, IE.den, LE.den, AL.den, lenV, true_and, and_true, pceach3_1, pceach3_0, hF, pb1, pb2, pb4, pb5, pb6] at hp
  obtain ⟨p1, p2, p3, p4, p5, p6, p7, p8, p9, p10, p11, p12, p13, p14, p15, p16, p17, p18, p19, p20⟩ := hp
  refine (show (Over (ρ.z.rl 2) (firstPair (ρ.z.rl 1) (ρ.i .i64 2)) (ρ.z.rl 1) (ρ.i .i64 2) (ρ.l 1002) (0 : Int) (0 : Int) ∧ ((0 : Int) = 0 ∨ (0 : Int) < (ρ.i .i64 3)) ∧ (ρ.z.rl 2).length ≤ 40) ∧ (((ρ.z.rl 2).length + 5 + ((ρ.z.rl 2).length - (0 : Int).toNat) : Nat) < 3 * (ρ.z.rl 2).length + 10 + ((ρ.z.rl 2).length - (ρ.i .i64 1000).toNat)) from ?_)
  obtain ⟨g, hb⟩ := hi
  first
    | (exfalso; omega)
    | exact ⟨⟨over0 (stop_of g (.inr (stN_f (by omega) (by assumption)))), (by first | exact .inl rfl | exact .inl trivial), hb⟩, by omega⟩
    | exact ⟨⟨over0 (stop_of g (.inl (by omega))), (by first | exact .inl rfl | exact .inl trivial), hb⟩, by omega⟩
def iveach4 (ρ : Rho) : Prop := Over (ρ.z.rl 2) (firstPair (ρ.z.rl 1) (ρ.i .i64 2)) (ρ.z.rl 1) (ρ.i .i64 2) [] 0 (ρ.i .i64 11969) ∧ (ρ.z.rl 2).length ≤ 40
theorem vcgeach4_0 : VC TTeach inveach mseach 4 teach4 weach4_3 ∧ VC TTeach inveach mseach 4 teach4 weach4_5 ∧ VC TTeach inveach mseach 4 teach4 weach4_6 ∧ VC TTeach inveach mseach 4 teach4 weach4_7 := by
  refine ⟨?_, ?_, ?_, ?_⟩
  all_goals
    intro ρ kn hi hp
    have hi : iveach4 ρ := hi
    unfold iveach4 at hi
    have hF : ρ.z.F = lnk.Φ := kn.F
    simp only [h_nil, h_cons, d_le, d_eq, d_not, d_var, d_lit, d_cel, d_leq, d_fn, d_and, d_iff, IE.den, LE.den, AL.den, lenV, true_and, and_true, pceach4_10, pceach4_7, pceach4_5, pceach4_3, pceach4_2, pceach4_0, pceach4_11, pceach4_8, hF, pb1, pb2, pb4, pb5, pb6] at hp
    have p1 := And.left hp
    replace hp := And.right hp
    repeat (have _ := And.left hp; replace hp := And.right hp)
    exfalso
    all_goals
      obtain ⟨o, hb⟩ := hi
      have on := over_n o
      first
        | omega
        | (have k := over_end o (.inl (by omega))
           omega)
        | (have k := over_end o (.inr (stN_f (by omega) (by assumption)))
           omega)
        | (have r := over_take (by omega) o (by omega) (by omega) (by omega) rfl rfl (by assumption) (by omega)
           have r1 := r.lt
           have r2 := r.at_
           first | omega | (simp at r1; done) | exact p1 r2 | exact p1 r2.symm)
theorem vceach4_0 : VC TTeach inveach mseach 4 teach4 weach4_0 := by
  intro ρ kn hi hp
  have hi : iveach4 ρ := hi
  unfold iveach4 at hi
  have hF : ρ.z.F = lnk.Φ := kn.F
  simp only [h_nil, h_cons, d_le, d_eq, d_not, d_var, d_lit, d_cel, d_leq, d_fn, d_and, d_iff, IE.den, LE.den, AL.den, lenV, true_and, and_true, pceach4_1, pceach4_0, hF, pb1, pb2, pb4, pb5, pb6] at hp
  obtain ⟨p1, p2, p3, p4, p5, p6, p7, p8, p9, p10, p11, p12, p13, p14, p15, p16, p17⟩ := hp
  refine (show (Over (ρ.z.rl 2) (firstPair (ρ.z.rl 1) (ρ.i .i64 2)) (ρ.z.rl 1) (ρ.i .i64 2) [] 0 (0 : Int) ∧ (ρ.z.rl 2).length ≤ 40) ∧ (((ρ.z.rl 2).length - (0 : Int).toNat : Nat) < (ρ.z.rl 2).length + 5 + ((ρ.z.rl 2).length - (ρ.i .i64 11969).toNat)) from ?_)
  obtain ⟨o, hb⟩ := hi
  exact ⟨⟨over0 o.s, hb⟩, by omega⟩
theorem vceach4_1 : VC TTeach inveach mseach 4 teach4 weach4_1 := by
  intro ρ kn hi hp
  have hi : iveach4 ρ := hi
  unfold iveach4 at hi
  have hF : ρ.z.F = lnk.Φ := kn.F
  simp only [h_nil, h_cons, d_le, d_eq, d_not, d_var, d_lit, d_cel, d_leq, d_fn, d_and, d_iff, IE.den, LE.den, AL.den, lenV, true_and, and_true, pceach4_1, pceach4_0, hF, pb1, pb2, pb4, pb5, pb6] at hp
  obtain ⟨p1, p2, p3, p4, p5, p6, p7, p8, p9, p10, p11, p12, p13, p14, p15, p16, p17⟩ := hp
  refine (show (Over (ρ.z.rl 2) (firstPair (ρ.z.rl 1) (ρ.i .i64 2)) (ρ.z.rl 1) (ρ.i .i64 2) [] 0 (0 : Int) ∧ (ρ.z.rl 2).length ≤ 40) ∧ (((ρ.z.rl 2).length - (0 : Int).toNat : Nat) < (ρ.z.rl 2).length + 5 + ((ρ.z.rl 2).length - (ρ.i .i64 11969).toNat)) from ?_)
  obtain ⟨o, hb⟩ := hi
  exact ⟨⟨over0 o.s, hb⟩, by omega⟩
theorem vceach4_2 : VC TTeach inveach mseach 4 teach4 weach4_2 := by
  intro ρ kn hi hp
  have hi : iveach4 ρ := hi
  unfold iveach4 at hi
  have hF : ρ.z.F = lnk.Φ := kn.F
  simp only [h_nil, h_cons, d_le, d_eq, d_not, d_var, d_lit, d_cel, d_leq, d_fn, d_and, d_iff, IE.den, LE.den, AL.den, lenV, true_and, and_true, pceach4_10, pceach4_7, pceach4_5, pceach4_3, pceach4_2, pceach4_0, hF, pb1, pb2, pb4, pb5, pb6] at hp
  obtain ⟨p1, p2, p3, p4, p5, p6, p7, p8, p9, p10, p11, p12, p13, p14, p15, p16, p17, p18, p19, p20, p21⟩ := hp
  refine (show (Over (ρ.z.rl 2) (firstPair (ρ.z.rl 1) (ρ.i .i64 2)) (ρ.z.rl 1) (ρ.i .i64 2) [] 0 ((ρ.i .i64 11969) + (1 : Int)) ∧ (ρ.z.rl 2).length ≤ 40) ∧ (((ρ.z.rl 2).length + 5 + ((ρ.z.rl 2).length - ((ρ.i .i64 11969) + (1 : Int)).toNat) : Nat) < (ρ.z.rl 2).length + 5 + ((ρ.z.rl 2).length - (ρ.i .i64 11969).toNat)) from ?_)
  obtain ⟨o, hb⟩ := hi
  exact ⟨⟨over_skip o (by omega) rfl rfl (by assumption) (by omega), hb⟩, by omega⟩
theorem vceach4_4 : VC TTeach inveach mseach 4 teach4 weach4_4 := by
  intro ρ kn hi hp
  have hi : iveach4 ρ := hi
  unfold iveach4 at hi
  have hF : ρ.z.F = lnk.Φ := kn.F
  simp only [h_nil, h_cons, d_le, d_eq, d_not, d_var, d_lit, d_cel, d_leq, d_fn, d_and, d_iff, IE.den, LE.den, AL.den, lenV, true_and, and_true, pceach4_7, pceach4_5, pceach4_3, pceach4_2, pceach4_0, hF, pb1, pb2, pb4, pb5, pb6] at hp
  obtain ⟨p1, p2, p3, p4, p5, p6, p7, p8, p9, p10, p11, p12, p13, p14, p15, p16, p17, p18, p19, p20⟩ := hp
  refine (show (Over (ρ.z.rl 2) (firstPair (ρ.z.rl 1) (ρ.i .i64 2)) (ρ.z.rl 1) (ρ.i .i64 2) [] 0 ((ρ.i .i64 11969) + (1 : Int)) ∧ (ρ.z.rl 2).length ≤ 40) ∧ (((ρ.z.rl 2).length + 5 + ((ρ.z.rl 2).length - ((ρ.i .i64 11969) + (1 : Int)).toNat) : Nat) < (ρ.z.rl 2).length + 5 + ((ρ.z.rl 2).length - (ρ.i .i64 11969).toNat)) from ?_)
  obtain ⟨o, hb⟩ := hi
  exact ⟨⟨over_skip o (by omega) rfl rfl (by assumption) (by omega), hb⟩, by omega⟩
theorem vceach4_8 : VC TTeach inveach mseach 4 teach4 weach4_8 := by
  intro ρ kn hi hp
  have hi : iveach4 ρ := hi
  unfold iveach4 at hi
  have hF : ρ.z.F = lnk.Φ := kn.F
  simp only [h_nil, h_cons, d_le, d_eq, d_not, d_var, d_lit, d_cel, d_leq, d_fn, d_and, d_iff, IE.den, LE.den, AL.den, lenV, true_and, and_true, pceach4_9, pceach4_6, pceach4_3, pceach4_2, pceach4_0, hF, pb1, pb2, pb4, pb5, pb6] at hp
  obtain ⟨p1, p2, p3, p4, p5, p6, p7, p8, p9, p10, p11, p12, p13, p14, p15, p16, p17, p18, p19, p20⟩ := hp
  refine (show (Over (ρ.z.rl 2) (firstPair (ρ.z.rl 1) (ρ.i .i64 2)) (ρ.z.rl 1) (ρ.i .i64 2) [] 0 ((ρ.i .i64 11969) + (1 : Int)) ∧ (ρ.z.rl 2).length ≤ 40) ∧ (((ρ.z.rl 2).length + 5 + ((ρ.z.rl 2).length - ((ρ.i .i64 11969) + (1 : Int)).toNat) : Nat) < (ρ.z.rl 2).length + 5 + ((ρ.z.rl 2).length - (ρ.i .i64 11969).toNat)) from ?_)
  obtain ⟨o, hb⟩ := hi
  exact ⟨⟨over_skip o (by omega) rfl rfl (by assumption) (by omega), hb⟩, by omega⟩
theorem vceach4_9 : VC TTeach inveach mseach 4 teach4 weach4_9 := by
  intro ρ kn hi hp
  have hi : iveach4 ρ := hi
  unfold iveach4 at hi
  have hF : ρ.z.F = lnk.Φ := kn.F
  simp only [h_nil, h_cons, d_le, d_eq, d_not, d_var, d_lit, d_cel, d_leq, d_fn, d_and, d_iff, IE.den, LE.den, AL.den, lenV, true_and, and_true, pceach4_9, pceach4_6, pceach4_3, pceach4_2, pceach4_0, hF, pb1, pb2, pb4, pb5, pb6] at hp
  obtain ⟨p1, p2, p3, p4, p5, p6, p7, p8, p9, p10, p11, p12, p13, p14, p15, p16, p17, p18, p19, p20⟩ := hp
  refine (show (Over (ρ.z.rl 2) (firstPair (ρ.z.rl 1) (ρ.i .i64 2)) (ρ.z.rl 1) (ρ.i .i64 2) [] 0 ((ρ.i .i64 11969) + (1 : Int)) ∧ (ρ.z.rl 2).length ≤ 40) ∧ (((ρ.z.rl 2).length + 5 + ((ρ.z.rl 2).length - ((ρ.i .i64 11969) + (1 : Int)).toNat) : Nat) < (ρ.z.rl 2).length + 5 + ((ρ.z.rl 2).length - (ρ.i .i64 11969).toNat)) from ?_)
  obtain ⟨o, hb⟩ := hi
  exact ⟨⟨over_skip o (by omega) rfl rfl (by assumption) (by omega), hb⟩, by omega⟩
theorem vceach4_10 : VC TTeach inveach mseach 4 teach4 weach4_10 := by
  intro ρ kn hi hp
  have hi : iveach4 ρ := hi
  unfold iveach4 at hi
  have hF : ρ.z.F = lnk.Φ := kn.F
  simp only [h_nil, h_cons, d_le, d_eq, d_not, d_var, d_lit, d_cel, d_leq, d_fn, d_and, d_iff, IE.den, LE.den, AL.den, lenV, true_and, and_true, pceach4_6, pceach4_3, pceach4_2, pceach4_0, hF, pb1, pb2, pb4, pb5, pb6] at hp
  obtain ⟨p1, p2, p3, p4, p5, p6, p7, p8, p9, p10, p11, p12, p13, p14, p15, p16, p17, p18, p19⟩ := hp
  refine (show (Over (ρ.z.rl 2) (firstPair (ρ.z.rl 1) (ρ.i .i64 2)) (ρ.z.rl 1) (ρ.i .i64 2) [] 0 ((ρ.i .i64 11969) + (1 : Int)) ∧ (ρ.z.rl 2).length ≤ 40) ∧ (((ρ.z.rl 2).length + 5 + ((ρ.z.rl 2).length - ((ρ.i .i64 11969) + (1 : Int)).toNat) : Nat) < (ρ.z.rl 2).length + 5 + ((ρ.z.rl 2).length - (ρ.i .i64 11969).toNat)) from ?_)
  obtain ⟨o, hb⟩ := hi
  exact ⟨⟨over_skip o (by omega) rfl rfl (by assumption) (by omega), hb⟩, by omega⟩
theorem vceach4_11 : VC TTeach inveach mseach 4 teach4 weach4_11 := by
  intro ρ kn hi hp
  have hi : iveach4 ρ := hi
  unfold iveach4 at hi
  have hF : ρ.z.F = lnk.Φ := kn.F
  simp only [h_nil, h_cons, d_le, d_eq, d_not, d_var, d_lit, d_cel, d_leq, d_fn, d_and, d_iff, IE.den, LE.den, AL.den, lenV, true_and, and_true, pceach4_4, pceach4_2, pceach4_0, hF, pb1, pb2, pb4, pb5, pb6] at hp
  obtain ⟨p1, p2, p3, p4, p5, p6, p7, p8, p9, p10, p11, p12, p13, p14, p15, p16, p17, p18⟩ := hp
  refine (show (Over (ρ.z.rl 2) (firstPair (ρ.z.rl 1) (ρ.i .i64 2)) (ρ.z.rl 1) (ρ.i .i64 2) [] 0 (0 : Int) ∧ (ρ.z.rl 2).length ≤ 40) ∧ (((ρ.z.rl 2).length - (0 : Int).toNat : Nat) < (ρ.z.rl 2).length + 5 + ((ρ.z.rl 2).length - (ρ.i .i64 11969).toNat)) from ?_)
  obtain ⟨o, hb⟩ := hi
  exact ⟨⟨over0 o.s, hb⟩, by omega⟩
theorem vceach4_12 : VC TTeach inveach mseach 4 teach4 weach4_12 := by
  intro ρ kn hi hp
  have hi : iveach4 ρ := hi
  unfold iveach4 at hi
  have hF : ρ.z.F = lnk.Φ := kn.F
  simp only [h_nil, h_cons, d_le, d_eq, d_not, d_var, d_lit, d_cel, d_leq, d_fn, d_and, d_iff, IE.den, LE.den, AL.den, lenV, true_and, and_true, pceach4_4, pceach4_2, pceach4_0, hF, pb1, pb2, pb4, pb5, pb6] at hp
  obtain ⟨p1, p2, p3, p4, p5, p6, p7, p8, p9, p10, p11, p12, p13, p14, p15, p16, p17, p18⟩ := hp
  refine (show (Over (ρ.z.rl 2) (firstPair (ρ.z.rl 1) (ρ.i .i64 2)) (ρ.z.rl 1) (ρ.i .i64 2) [] 0 (0 : Int) ∧ (ρ.z.rl 2).length ≤ 40) ∧ (((ρ.z.rl 2).length - (0 : Int).toNat : Nat) < (ρ.z.rl 2).length + 5 + ((ρ.z.rl 2).length - (ρ.i .i64 11969).toNat)) from ?_)
  obtain ⟨o, hb⟩ := hi
  exact ⟨⟨over0 o.s, hb⟩, by omega⟩
def iveach5 (ρ : Rho) : Prop := Over (ρ.z.rl 2) (firstPair (ρ.z.rl 1) (ρ.i .i64 2)) (ρ.l 11974) (ρ.i .i64 2) (ρ.l 1002) (ρ.i .i64 11972) (ρ.i .i64 11970) ∧ ((ρ.i .i64 11972) = 0 ∨ (ρ.i .i64 11972) < (ρ.i .i64 3)) ∧ (ρ.z.rl 2).length ≤ 40
theorem vcgeach5_0 : VC TTeach inveach mseach 5 teach5 weach5_1 ∧ VC TTeach inveach mseach 5 teach5 weach5_3 ∧ VC TTeach inveach mseach 5 teach5 weach5_5 ∧ VC TTeach inveach mseach 5 teach5 weach5_7 ∧ VC TTeach inveach mseach 5 teach5 weach5_9 ∧ VC TTeach inveach mseach 5 teach5 weach5_12 ∧ VC TTeach inveach mseach 5 teach5 weach5_15 ∧ VC TTeach inveach mseach 5 teach5 weach5_17 ∧ VC TTeach inveach mseach 5 teach5 weach5_19 ∧ VC TTeach inveach mseach 5 teach5 weach5_22 ∧ VC TTeach inveach mseach 5 teach5 weach5_25 ∧ VC TTeach inveach mseach 5 teach5 weach5_27 ∧ VC TTeach inveach mseach 5 teach5 weach5_28 ∧ VC TTeach inveach mseach 5 teach5 weach5_31 ∧ VC TTeach inveach mseach 5 teach5 weach5_34 ∧ VC TTeach inveach mseach 5 teach5 weach5_36 ∧ VC TTeach inveach mseach 5 teach5 weach5_37 ∧ VC TTeach inveach mseach 5 teach5 weach5_40 ∧ VC TTeach inveach mseach 5 teach5 weach5_43 ∧ VC TTeach inveach mseach 5 teach5 weach5_45 ∧ VC TTeach inveach mseach 5 teach5 weach5_50 ∧ VC TTeach inveach mseach 5 teach5 weach5_52 ∧ VC TTeach inveach mseach 5 teach5 weach5_54 ∧ VC TTeach inveach mseach 5 teach5 weach5_56 := by
  refine ⟨?_, ?_, ?_, ?_, ?_, ?_, ?_, ?_, ?_, ?_, ?_, ?_, ?_, ?_, ?_, ?_, ?_, ?_, ?_, ?_, ?_, ?_, ?_, ?_⟩
  all_goals
    intro ρ kn hi hp
    have hi : iveach5 ρ := hi
    unfold iveach5 at hi
    have hF : ρ.z.F = lnk.Φ := kn.F
    simp only [h_nil, h_cons, d_le, d_eq, d_not, d_var, d_lit, d_cel, d_leq, d_fn, d_and, d_iff, IE.den, LE.den, AL.den, lenV, true_and, and_true, pceach5_7, pceach5_3, pceach5_1, pceach5_0, pceach5_8, pceach5_9, pceach5_4, pceach5_10, pceach5_25, pceach5_22, pceach5_15, pceach5_11, pceach5_5, pceach5_2, pceach5_50, pceach5_42, pceach5_37, pceach5_33, pceach5_29, pceach5_51, pceach5_43, pceach5_26, pceach5_23, pceach5_16, pceach5_52, pceach5_44, pceach5_38, pceach5_34, pceach5_30, pceach5_53, pceach5_45, pceach5_27, pceach5_54, pceach5_46, pceach5_39, pceach5_35, pceach5_31, pceach5_55, pceach5_47, pceach5_24, pceach5_48, pceach5_40, pceach5_36, pceach5_32, pceach5_28, pceach5_49, pceach5_41, pceach5_18, pceach5_13, pceach5_6, pceach5_19, pceach5_20, pceach5_14, pceach5_21, hF, pb1, pb2, pb4, pb5, pb6] at hp
    have p1 := And.left hp
    replace hp := And.right hp
    repeat (have _ := And.left hp; replace hp := And.right hp)
    exfalso
    all_goals
      obtain ⟨o, h2, hb⟩ := hi
      have on := over_n o
      first
        | omega
        | (have k := over_end o (.inl (by omega))
           omega)
        | (have k := over_end o (.inr (stN_f (by omega) (by assumption)))
           omega)
        | (have r := over_take (by omega) o (by omega) (by omega) (by omega) rfl rfl (by assumption) (by omega)
           have r1 := r.lt
           have r2 := r.at_
           first | omega | (simp at r1; done) | exact p1 r2 | exact p1 r2.symm)
theorem vceach5_0 : VC TTeach inveach mseach 5 teach5 weach5_0 := by
  intro ρ kn hi hp
  have hi : iveach5 ρ := hi
  unfold iveach5 at hi
  have hF : ρ.z.F = lnk.Φ := kn.F
  simp only [h_nil, h_cons, d_le, d_eq, d_not, d_var, d_lit, d_cel, d_leq, d_fn, d_and, d_iff, IE.den, LE.den, AL.den, lenV, true_and, and_true, pceach5_7, pceach5_3, pceach5_1, pceach5_0, hF, pb1, pb2, pb4, pb5, pb6] at hp
  obtain ⟨p1, p2, p3, p4, p5, p6, p7, p8, p9, p10, p11, p12, p13, p14, p15, p16, p17, p18, p19, p20, p21, p22, p23⟩ := hp
  refine (show (Stop (ρ.z.rl 2) (firstPair (ρ.z.rl 1) (ρ.i .i64 2)) (ρ.l 1002) ∧ (ρ.z.rl 2).length ≤ 40) ∧ (((ρ.z.rl 2).length + 2 : Nat) < (ρ.z.rl 2).length + 5 + ((ρ.z.rl 2).length - (ρ.i .i64 11970).toNat)) from ?_)
  obtain ⟨o, h2, hb⟩ := hi
  exact ⟨⟨o.s, hb⟩, by omega⟩
theorem vceach5_2 : VC TTeach inveach mseach 5 teach5 weach5_2 := by
  intro ρ kn hi hp
  have hi : iveach5 ρ := hi
  unfold iveach5 at hi
  have hF : ρ.z.F = lnk.Φ := kn.F
  simp only [h_nil, h_cons, d_le, d_eq, d_not, d_var, d_lit, d_cel, d_leq, d_fn, d_and, d_iff, IE.den, LE.den, AL.den, lenV, true_and, and_true, pceach5_8, pceach5_3, pceach5_1, pceach5_0, hF, pb1, pb2, pb4, pb5, pb6] at hp
  obtain ⟨p1, p2, p3, p4, p5, p6, p7, p8, p9, p10, p11, p12, p13, p14, p15, p16, p17, p18, p19, p20, p21, p22, p23⟩ := hp
  refine (show (Stop (ρ.z.rl 2) (firstPair (ρ.z.rl 1) (ρ.i .i64 2)) (ρ.l 1002) ∧ (ρ.z.rl 2).length ≤ 40) ∧ (((ρ.z.rl 2).length + 2 : Nat) < (ρ.z.rl 2).length + 5 + ((ρ.z.rl 2).length - (ρ.i .i64 11970).toNat)) from ?_)
  obtain ⟨o, h2, hb⟩ := hi
  exact ⟨⟨o.s, hb⟩, by omega⟩
theorem vceach5_4 : VC TTeach inveach mseach 5 teach5 weach5_4 := by
  intro ρ kn hi hp
  have hi : iveach5 ρ := hi
  unfold iveach5 at hi
  have hF : ρ.z.F = lnk.Φ := kn.F
  simp only [h_nil, h_cons, d_le, d_eq, d_not, d_var, d_lit, d_cel, d_leq, d_fn, d_and, d_iff, IE.den, LE.den, AL.den, lenV, true_and, and_true, pceach5_9, pceach5_4, pceach5_1, pceach5_0, hF, pb1, pb2, pb4, pb5, pb6] at hp
  obtain ⟨p1, p2, p3, p4, p5, p6, p7, p8, p9, p10, p11, p12, p13, p14, p15, p16, p17, p18, p19, p20, p21, p22, p23⟩ := hp
  refine (show (Stop (ρ.z.rl 2) (firstPair (ρ.z.rl 1) (ρ.i .i64 2)) (ρ.l 1002) ∧ (ρ.z.rl 2).length ≤ 40) ∧ (((ρ.z.rl 2).length + 2 : Nat) < (ρ.z.rl 2).length + 5 + ((ρ.z.rl 2).length - (ρ.i .i64 11970).toNat)) from ?_)
  obtain ⟨o, h2, hb⟩ := hi
  exact ⟨⟨o.s, hb⟩, by omega⟩
theorem vceach5_6 : VC TTeach inveach mseach 5 teach5 weach5_6 := by
  intro ρ kn hi hp
  have hi : iveach5 ρ := hi
  unfold iveach5 at hi
  have hF : ρ.z.F = lnk.Φ := kn.F
  simp only [h_nil, h_cons, d_le, d_eq, d_not, d_var, d_lit, d_cel, d_leq, d_fn, d_and, d_iff, IE.den, LE.den, AL.den, lenV, true_and, and_true, pceach5_10, pceach5_4, pceach5_1, pceach5_0, hF, pb1, pb2, pb4, pb5, pb6] at hp
  obtain ⟨p1, p2, p3, p4, p5, p6, p7, p8, p9, p10, p11, p12, p13, p14, p15, p16, p17, p18, p19, p20, p21, p22, p23⟩ := hp
  refine (show (Stop (ρ.z.rl 2) (firstPair (ρ.z.rl 1) (ρ.i .i64 2)) (ρ.l 1002) ∧ (ρ.z.rl 2).length ≤ 40) ∧ (((ρ.z.rl 2).length + 2 : Nat) < (ρ.z.rl 2).length + 5 + ((ρ.z.rl 2).length - (ρ.i .i64 11970).toNat)) from ?_)
  obtain ⟨o, h2, hb⟩ := hi
  exact ⟨⟨o.s, hb⟩, by omega⟩
theorem vceach5_8 : VC TTeach inveach mseach 5 teach5 weach5_8 := by
  intro ρ kn hi hp
  have hi : iveach5 ρ := hi
  unfold iveach5 at hi
  have hF : ρ.z.F = lnk.Φ := kn.F
  simp only [h_nil, h_cons, d_le, d_eq, d_not, d_var, d_lit, d_cel, d_leq, d_fn, d_and, d_iff, IE.den, LE.den, AL.den, lenV, true_and, and_true, pceach5_22, pceach5_15, pceach5_11, pceach5_5, pceach5_2, pceach5_0, hF, pb1, pb2, pb4, pb5, pb6] at hp
  obtain ⟨p1, p2, p3, p4, p5, p6, p7, p8, p9, p10, p11, p12, p13, p14, p15, p16, p17, p18, p19, p20, p21, p22, p23, p24, p25⟩ := hp
  refine (show (Over (ρ.z.rl 2) (firstPair (ρ.z.rl 1) (ρ.i .i64 2)) (ρ.l 11974) (ρ.i .i64 2) (ρ.l 1002) (ρ.i .i64 11972) ((ρ.i .i64 11970) + (1 : Int)) ∧ ((ρ.i .i64 11972) = 0 ∨ (ρ.i .i64 11972) < (ρ.i .i64 3)) ∧ (ρ.z.rl 2).length ≤ 40) ∧ (((ρ.z.rl 2).length + 5 + ((ρ.z.rl 2).length - ((ρ.i .i64 11970) + (1 : Int)).toNat) : Nat) < (ρ.z.rl 2).length + 5 + ((ρ.z.rl 2).length - (ρ.i .i64 11970).toNat)) from ?_)
  obtain ⟨o, h2, hb⟩ := hi
  first
    | exact ⟨⟨over_skip o (by omega) rfl rfl (by assumption) (by omega), h2, hb⟩, by omega⟩
    | (have r := over_take (by omega) o (by omega) (by omega) (by omega) rfl rfl (by assumption) (by omega)
       exact ⟨⟨r.next, .inr (by omega), hb⟩, by omega⟩)
theorem vceach5_10 : VC TTeach inveach mseach 5 teach5 weach5_10 := by
  intro ρ kn hi hp
  have hi : iveach5 ρ := hi
  unfold iveach5 at hi
  have hF : ρ.z.F = lnk.Φ := kn.F
  simp only [h_nil, h_cons, d_le, d_eq, d_not, d_var, d_lit, d_cel, d_leq, d_fn, d_and, d_iff, IE.den, LE.den, AL.den, lenV, true_and, and_true, pceach5_42, pceach5_37, pceach5_33, pceach5_29, pceach5_25, pceach5_22, pceach5_15, pceach5_11, pceach5_5, pceach5_2, pceach5_0, hF, pb1, pb2, pb4, pb5, pb6] at hp
  obtain ⟨p1, p2, p3, p4, p5, p6, p7, p8, p9, p10, p11, p12, p13, p14, p15, p16, p17, p18, p19, p20, p21, p22, p23, p24, p25, p26, p27, p28, p29, p30⟩ := hp
  refine (show (Stop (ρ.z.rl 2) (firstPair (ρ.z.rl 1) (ρ.i .i64 2)) (ρ.l 1002) ∧ (ρ.z.rl 2).length ≤ 40) ∧ (((ρ.z.rl 2).length + 2 : Nat) < (ρ.z.rl 2).length + 5 + ((ρ.z.rl 2).length - (ρ.i .i64 11970).toNat)) from ?_)
  obtain ⟨o, h2, hb⟩ := hi
  exact ⟨⟨o.s, hb⟩, by omega⟩
theorem vceach5_11 : VC TTeach inveach mseach 5 teach5 weach5_11 := by
  intro ρ kn hi hp
  have hi : iveach5 ρ := hi
  unfold iveach5 at hi
  have hF : ρ.z.F = lnk.Φ := kn.F
  simp only [h_nil, h_cons, d_le, d_eq, d_not, d_var, d_lit, d_cel, d_leq, d_fn, d_and, d_iff, IE.den, LE.den, AL.den, lenV, true_and, and_true, pceach5_50, pceach5_42, pceach5_37, pceach5_33, pceach5_29, pceach5_25, pceach5_22, pceach5_15, pceach5_11, pceach5_5, pceach5_2, pceach5_0, hF, pb1, pb2, pb4, pb5, pb6] at hp
  obtain ⟨p1, p2, p3, p4, p5, p6, p7, p8, p9, p10, p11, p12, p13, p14, p15, p16, p17, p18, p19, p20, p21, p22, p23, p24, p25, p26, p27, p28, p29, p30, p31⟩ := hp
  refine (show (Stop (ρ.z.rl 2) (firstPair (ρ.z.rl 1) (ρ.i .i64 2)) (ρ.l 1002) ∧ (ρ.z.rl 2).length ≤ 40) ∧ (((ρ.z.rl 2).length + 2 : Nat) < (ρ.z.rl 2).length + 5 + ((ρ.z.rl 2).length - (ρ.i .i64 11970).toNat)) from ?_)
  obtain ⟨o, h2, hb⟩ := hi
  exact ⟨⟨o.s, hb⟩, by omega⟩
theorem vceach5_13 : VC TTeach inveach mseach 5 teach5 weach5_13 := by
  intro ρ kn hi hp
  have hi : iveach5 ρ := hi
  unfold iveach5 at hi
  have hF : ρ.z.F = lnk.Φ := kn.F
  simp only [h_nil, h_cons, d_le, d_eq, d_not, d_var, d_lit, d_cel, d_leq, d_fn, d_and, d_iff, IE.den, LE.den, AL.den, lenV, true_and, and_true, pceach5_43, pceach5_37, pceach5_33, pceach5_29, pceach5_25, pceach5_22, pceach5_15, pceach5_11, pceach5_5, pceach5_2, pceach5_0, hF, pb1, pb2, pb4, pb5, pb6] at hp
  obtain ⟨p1, p2, p3, p4, p5, p6, p7, p8, p9, p10, p11, p12, p13, p14, p15, p16, p17, p18, p19, p20, p21, p22, p23, p24, p25, p26, p27, p28, p29, p30⟩ := hp
  refine (show (Stop (ρ.z.rl 2) (firstPair (ρ.z.rl 1) (ρ.i .i64 2)) (ρ.l 1002) ∧ (ρ.z.rl 2).length ≤ 40) ∧ (((ρ.z.rl 2).length + 2 : Nat) < (ρ.z.rl 2).length + 5 + ((ρ.z.rl 2).length - (ρ.i .i64 11970).toNat)) from ?_)
  obtain ⟨o, h2, hb⟩ := hi
  exact ⟨⟨o.s, hb⟩, by omega⟩
theorem vceach5_14 : VC TTeach inveach mseach 5 teach5 weach5_14 := by
  intro ρ kn hi hp
  have hi : iveach5 ρ := hi
  unfold iveach5 at hi
  have hF : ρ.z.F = lnk.Φ := kn.F
  simp only [h_nil, h_cons, d_le, d_eq, d_not, d_var, d_lit, d_cel, d_leq, d_fn, d_and, d_iff, IE.den, LE.den, AL.den, lenV, true_and, and_true, pceach5_51, pceach5_43, pceach5_37, pceach5_33, pceach5_29, pceach5_25, pceach5_22, pceach5_15, pceach5_11, pceach5_5, pceach5_2, pceach5_0, hF, pb1, pb2, pb4, pb5, pb6] at hp
  obtain ⟨p1, p2, p3, p4, p5, p6, p7, p8, p9, p10, p11, p12, p13, p14, p15, p16, p17, p18, p19, p20, p21, p22, p23, p24, p25, p26, p27, p28, p29, p30, p31⟩ := hp
  refine (show (Stop (ρ.z.rl 2) (firstPair (ρ.z.rl 1) (ρ.i .i64 2)) (ρ.l 1002) ∧ (ρ.z.rl 2).length ≤ 40) ∧ (((ρ.z.rl 2).length + 2 : Nat) < (ρ.z.rl 2).length + 5 + ((ρ.z.rl 2).length - (ρ.i .i64 11970).toNat)) from ?_)
  obtain ⟨o, h2, hb⟩ := hi
  exact ⟨⟨o.s, hb⟩, by omega⟩
theorem vceach5_16 : VC TTeach inveach mseach 5 teach5 weach5_16 := by
  intro ρ kn hi hp
  have hi : iveach5 ρ := hi
  unfold iveach5 at hi
  have hF : ρ.z.F = lnk.Φ := kn.F
  simp only [h_nil, h_cons, d_le, d_eq, d_not, d_var, d_lit, d_cel, d_leq, d_fn, d_and, d_iff, IE.den, LE.den, AL.den, lenV, true_and, and_true, pceach5_33, pceach5_29, pceach5_25, pceach5_22, pceach5_15, pceach5_11, pceach5_5, pceach5_2, pceach5_0, hF, pb1, pb2, pb4, pb5, pb6] at hp
  obtain ⟨p1, p2, p3, p4, p5, p6, p7, p8, p9, p10, p11, p12, p13, p14, p15, p16, p17, p18, p19, p20, p21, p22, p23, p24, p25, p26, p27, p28⟩ := hp
  refine (show (Over (ρ.z.rl 2) (firstPair (ρ.z.rl 1) (ρ.i .i64 2)) ((ρ.l 11974).set (ρ.i .i64 2).toNat [Go.Value.int .i64 (clampK .i64 (intV (celV (ρ.z.rl 2) (ρ.i .i64 11970) 0))), Go.Value.int .i64 (clampK .i64 (intV (celV (ρ.z.rl 2) (ρ.i .i64 11970) 1)))]) (ρ.i .i64 2) (ρ.l 1002) ((ρ.i .i64 11972) + (1 : Int)) ((ρ.i .i64 11970) + (1 : Int)) ∧ (((ρ.i .i64 11972) + (1 : Int)) = 0 ∨ ((ρ.i .i64 11972) + (1 : Int)) < (ρ.i .i64 3)) ∧ (ρ.z.rl 2).length ≤ 40) ∧ (((ρ.z.rl 2).length + 5 + ((ρ.z.rl 2).length - ((ρ.i .i64 11970) + (1 : Int)).toNat) : Nat) < (ρ.z.rl 2).length + 5 + ((ρ.z.rl 2).length - (ρ.i .i64 11970).toNat)) from ?_)
  obtain ⟨o, h2, hb⟩ := hi
  first
    | exact ⟨⟨over_skip o (by omega) rfl rfl (by assumption) (by omega), h2, hb⟩, by omega⟩
    | (have r := over_take (by omega) o (by omega) (by omega) (by omega) rfl rfl (by assumption) (by omega)
       exact ⟨⟨r.next, .inr (by omega), hb⟩, by omega⟩)
theorem vceach5_18 : VC TTeach inveach mseach 5 teach5 weach5_18 := by
  intro ρ kn hi hp
  have hi : iveach5 ρ := hi
  unfold iveach5 at hi
  have hF : ρ.z.F = lnk.Φ := kn.F
  simp only [h_nil, h_cons, d_le, d_eq, d_not, d_var, d_lit, d_cel, d_leq, d_fn, d_and, d_iff, IE.den, LE.den, AL.den, lenV, true_and, and_true, pceach5_15, pceach5_11, pceach5_5, pceach5_2, pceach5_0, hF, pb1, pb2, pb4, pb5, pb6] at hp
  obtain ⟨p1, p2, p3, p4, p5, p6, p7, p8, p9, p10, p11, p12, p13, p14, p15, p16, p17, p18, p19, p20, p21, p22, p23, p24⟩ := hp
  refine (show (Over (ρ.z.rl 2) (firstPair (ρ.z.rl 1) (ρ.i .i64 2)) (ρ.l 11974) (ρ.i .i64 2) (ρ.l 1002) (ρ.i .i64 11972) ((ρ.i .i64 11970) + (1 : Int)) ∧ ((ρ.i .i64 11972) = 0 ∨ (ρ.i .i64 11972) < (ρ.i .i64 3)) ∧ (ρ.z.rl 2).length ≤ 40) ∧ (((ρ.z.rl 2).length + 5 + ((ρ.z.rl 2).length - ((ρ.i .i64 11970) + (1 : Int)).toNat) : Nat) < (ρ.z.rl 2).length + 5 + ((ρ.z.rl 2).length - (ρ.i .i64 11970).toNat)) from ?_)
  obtain ⟨o, h2, hb⟩ := hi
  first
    | exact ⟨⟨over_skip o (by omega) rfl rfl (by assumption) (by omega), h2, hb⟩, by omega⟩
    | (have r := over_take (by omega) o (by omega) (by omega) (by omega) rfl rfl (by assumption) (by omega)
       exact ⟨⟨r.next, .inr (by omega), hb⟩, by omega⟩)
theorem vceach5_20 : VC TTeach inveach mseach 5 teach5 weach5_20 := by
  intro ρ kn hi hp
  have hi : iveach5 ρ := hi
  unfold iveach5 at hi
  have hF : ρ.z.F = lnk.Φ := kn.F
  simp only [h_nil, h_cons, d_le, d_eq, d_not, d_var, d_lit, d_cel, d_leq, d_fn, d_and, d_iff, IE.den, LE.den, AL.den, lenV, true_and, and_true, pceach5_44, pceach5_38, pceach5_34, pceach5_30, pceach5_26, pceach5_23, pceach5_16, pceach5_11, pceach5_5, pceach5_2, pceach5_0, hF, pb1, pb2, pb4, pb5, pb6] at hp
  obtain ⟨p1, p2, p3, p4, p5, p6, p7, p8, p9, p10, p11, p12, p13, p14, p15, p16, p17, p18, p19, p20, p21, p22, p23, p24, p25, p26, p27, p28, p29, p30⟩ := hp
  refine (show (Stop (ρ.z.rl 2) (firstPair (ρ.z.rl 1) (ρ.i .i64 2)) (ρ.l 1002) ∧ (ρ.z.rl 2).length ≤ 40) ∧ (((ρ.z.rl 2).length + 2 : Nat) < (ρ.z.rl 2).length + 5 + ((ρ.z.rl 2).length - (ρ.i .i64 11970).toNat)) from ?_)
  obtain ⟨o, h2, hb⟩ := hi
  exact ⟨⟨o.s, hb⟩, by omega⟩
theorem vceach5_21 : VC TTeach inveach mseach 5 teach5 weach5_21 := by
  intro ρ kn hi hp
  have hi : iveach5 ρ := hi
  unfold iveach5 at hi
  have hF : ρ.z.F = lnk.Φ := kn.F
  simp only [h_nil, h_cons, d_le, d_eq, d_not, d_var, d_lit, d_cel, d_leq, d_fn, d_and, d_iff, IE.den, LE.den, AL.den, lenV, true_and, and_true, pceach5_52, pceach5_44, pceach5_38, pceach5_34, pceach5_30, pceach5_26, pceach5_23, pceach5_16, pceach5_11, pceach5_5, pceach5_2, pceach5_0, hF, pb1, pb2, pb4, pb5, pb6] at hp
  obtain ⟨p1, p2, p3, p4, p5, p6, p7, p8, p9, p10, p11, p12, p13, p14, p15, p16, p17, p18, p19, p20, p21, p22, p23, p24, p25, p26, p27, p28, p29, p30, p31⟩ := hp
  refine (show (Stop (ρ.z.rl 2) (firstPair (ρ.z.rl 1) (ρ.i .i64 2)) (ρ.l 1002) ∧ (ρ.z.rl 2).length ≤ 40) ∧ (((ρ.z.rl 2).length + 2 : Nat) < (ρ.z.rl 2).length + 5 + ((ρ.z.rl 2).length - (ρ.i .i64 11970).toNat)) from ?_)
  obtain ⟨o, h2, hb⟩ := hi
  exact ⟨⟨o.s, hb⟩, by omega⟩
theorem vceach5_23 : VC TTeach inveach mseach 5 teach5 weach5_23 := by
  intro ρ kn hi hp
  have hi : iveach5 ρ := hi
  unfold iveach5 at hi
  have hF : ρ.z.F = lnk.Φ := kn.F
  simp only [h_nil, h_cons, d_le, d_eq, d_not, d_var, d_lit, d_cel, d_leq, d_fn, d_and, d_iff, IE.den, LE.den, AL.den, lenV, true_and, and_true, pceach5_45, pceach5_38, pceach5_34, pceach5_30, pceach5_26, pceach5_23, pceach5_16, pceach5_11, pceach5_5, pceach5_2, pceach5_0, hF, pb1, pb2, pb4, pb5, pb6] at hp
  obtain ⟨p1, p2, p3, p4, p5, p6, p7, p8, p9, p10, p11, p12, p13, p14, p15, p16, p17, p18, p19, p20, p21, p22, p23, p24, p25, p26, p27, p28, p29, p30⟩ := hp
  refine (show (Stop (ρ.z.rl 2) (firstPair (ρ.z.rl 1) (ρ.i .i64 2)) (ρ.l 1002) ∧ (ρ.z.rl 2).length ≤ 40) ∧ (((ρ.z.rl 2).length + 2 : Nat) < (ρ.z.rl 2).length + 5 + ((ρ.z.rl 2).length - (ρ.i .i64 11970).toNat)) from ?_)
  obtain ⟨o, h2, hb⟩ := hi
  exact ⟨⟨o.s, hb⟩, by omega⟩
theorem vceach5_24 : VC TTeach inveach mseach 5 teach5 weach5_24 := by
  intro ρ kn hi hp
  have hi : iveach5 ρ := hi
  unfold iveach5 at hi
  have hF : ρ.z.F = lnk.Φ := kn.F
  simp only [h_nil, h_cons, d_le, d_eq, d_not, d_var, d_lit, d_cel, d_leq, d_fn, d_and, d_iff, IE.den, LE.den, AL.den, lenV, true_and, and_true, pceach5_53, pceach5_45, pceach5_38, pceach5_34, pceach5_30, pceach5_26, pceach5_23, pceach5_16, pceach5_11, pceach5_5, pceach5_2, pceach5_0, hF, pb1, pb2, pb4, pb5, pb6] at hp
  obtain ⟨p1, p2, p3, p4, p5, p6, p7, p8, p9, p10, p11, p12, p13, p14, p15, p16, p17, p18, p19, p20, p21, p22, p23, p24, p25, p26, p27, p28, p29, p30, p31⟩ := hp
  refine (show (Stop (ρ.z.rl 2) (firstPair (ρ.z.rl 1) (ρ.i .i64 2)) (ρ.l 1002) ∧ (ρ.z.rl 2).length ≤ 40) ∧ (((ρ.z.rl 2).length + 2 : Nat) < (ρ.z.rl 2).length + 5 + ((ρ.z.rl 2).length - (ρ.i .i64 11970).toNat)) from ?_)
  obtain ⟨o, h2, hb⟩ := hi
  exact ⟨⟨o.s, hb⟩, by omega⟩
theorem vceach5_26 : VC TTeach inveach mseach 5 teach5 weach5_26 := by
  intro ρ kn hi hp
  have hi : iveach5 ρ := hi
  unfold iveach5 at hi
  have hF : ρ.z.F = lnk.Φ := kn.F
  simp only [h_nil, h_cons, d_le, d_eq, d_not, d_var, d_lit, d_cel, d_leq, d_fn, d_and, d_iff, IE.den, LE.den, AL.den, lenV, true_and, and_true, pceach5_34, pceach5_30, pceach5_26, pceach5_23, pceach5_16, pceach5_11, pceach5_5, pceach5_2, pceach5_0, hF, pb1, pb2, pb4, pb5, pb6] at hp
  obtain ⟨p1, p2, p3, p4, p5, p6, p7, p8, p9, p10, p11, p12, p13, p14, p15, p16, p17, p18, p19, p20, p21, p22, p23, p24, p25, p26, p27, p28⟩ := hp
  refine (show (Over (ρ.z.rl 2) (firstPair (ρ.z.rl 1) (ρ.i .i64 2)) ((ρ.l 11974).set (ρ.i .i64 2).toNat [Go.Value.int .i64 (clampK .i64 (intV (celV (ρ.z.rl 2) (ρ.i .i64 11970) 0))), Go.Value.int .i64 (clampK .i64 (intV (celV (ρ.z.rl 2) (ρ.i .i64 11970) 1)))]) (ρ.i .i64 2) (ρ.l 1002) ((ρ.i .i64 11972) + (1 : Int)) ((ρ.i .i64 11970) + (1 : Int)) ∧ (((ρ.i .i64 11972) + (1 : Int)) = 0 ∨ ((ρ.i .i64 11972) + (1 : Int)) < (ρ.i .i64 3)) ∧ (ρ.z.rl 2).length ≤ 40) ∧ (((ρ.z.rl 2).length + 5 + ((ρ.z.rl 2).length - ((ρ.i .i64 11970) + (1 : Int)).toNat) : Nat) < (ρ.z.rl 2).length + 5 + ((ρ.z.rl 2).length - (ρ.i .i64 11970).toNat)) from ?_)
  obtain ⟨o, h2, hb⟩ := hi
  first
    | exact ⟨⟨over_skip o (by omega) rfl rfl (by assumption) (by omega), h2, hb⟩, by omega⟩
    | (have r := over_take (by omega) o (by omega) (by omega) (by omega) rfl rfl (by assumption) (by omega)
       exact ⟨⟨r.next, .inr (by omega), hb⟩, by omega⟩)
theorem vceach5_29 : VC TTeach inveach mseach 5 teach5 weach5_29 := by
  intro ρ kn hi hp
  have hi : iveach5 ρ := hi
  unfold iveach5 at hi
  have hF : ρ.z.F = lnk.Φ := kn.F
  simp only [h_nil, h_cons, d_le, d_eq, d_not, d_var, d_lit, d_cel, d_leq, d_fn, d_and, d_iff, IE.den, LE.den, AL.den, lenV, true_and, and_true, pceach5_46, pceach5_39, pceach5_35, pceach5_31, pceach5_27, pceach5_23, pceach5_16, pceach5_11, pceach5_5, pceach5_2, pceach5_0, hF, pb1, pb2, pb4, pb5, pb6] at hp
  obtain ⟨p1, p2, p3, p4, p5, p6, p7, p8, p9, p10, p11, p12, p13, p14, p15, p16, p17, p18, p19, p20, p21, p22, p23, p24, p25, p26, p27, p28, p29, p30⟩ := hp
  refine (show (Stop (ρ.z.rl 2) (firstPair (ρ.z.rl 1) (ρ.i .i64 2)) (ρ.l 1002) ∧ (ρ.z.rl 2).length ≤ 40) ∧ (((ρ.z.rl 2).length + 2 : Nat) < (ρ.z.rl 2).length + 5 + ((ρ.z.rl 2).length - (ρ.i .i64 11970).toNat)) from ?_)
  obtain ⟨o, h2, hb⟩ := hi
  exact ⟨⟨o.s, hb⟩, by omega⟩
theorem vceach5_30 : VC TTeach inveach mseach 5 teach5 weach5_30 := by
  intro ρ kn hi hp
  have hi : iveach5 ρ := hi
  unfold iveach5 at hi
  have hF : ρ.z.F = lnk.Φ := kn.F
  simp only [h_nil, h_cons, d_le, d_eq, d_not, d_var, d_lit, d_cel, d_leq, d_fn, d_and, d_iff, IE.den, LE.den, AL.den, lenV, true_and, and_true, pceach5_54, pceach5_46, pceach5_39, pceach5_35, pceach5_31, pceach5_27, pceach5_23, pceach5_16, pceach5_11, pceach5_5, pceach5_2, pceach5_0, hF, pb1, pb2, pb4, pb5, pb6] at hp
  obtain ⟨p1, p2, p3, p4, p5, p6, p7, p8, p9, p10, p11, p12, p13, p14, p15, p16, p17, p18, p19, p20, p21, p22, p23, p24, p25, p26, p27, p28, p29, p30, p31⟩ := hp
  refine (show (Stop (ρ.z.rl 2) (firstPair (ρ.z.rl 1) (ρ.i .i64 2)) (ρ.l 1002) ∧ (ρ.z.rl 2).length ≤ 40) ∧ (((ρ.z.rl 2).length + 2 : Nat) < (ρ.z.rl 2).length + 5 + ((ρ.z.rl 2).length - (ρ.i .i64 11970).toNat)) from ?_)
  obtain ⟨o, h2, hb⟩ := hi
  exact ⟨⟨o.s, hb⟩, by omega⟩
theorem vceach5_32 : VC TTeach inveach mseach 5 teach5 weach5_32 := by
  intro ρ kn hi hp
  have hi : iveach5 ρ := hi
  unfold iveach5 at hi
  have hF : ρ.z.F = lnk.Φ := kn.F
  simp only [h_nil, h_cons, d_le, d_eq, d_not, d_var, d_lit, d_cel, d_leq, d_fn, d_and, d_iff, IE.den, LE.den, AL.den, lenV, true_and, and_true, pceach5_47, pceach5_39, pceach5_35, pceach5_31, pceach5_27, pceach5_23, pceach5_16, pceach5_11, pceach5_5, pceach5_2, pceach5_0, hF, pb1, pb2, pb4, pb5, pb6] at hp
  obtain ⟨p1, p2, p3, p4, p5, p6, p7, p8, p9, p10, p11, p12, p13, p14, p15, p16, p17, p18, p19, p20, p21, p22, p23, p24, p25, p26, p27, p28, p29, p30⟩ := hp
  refine (show (Stop (ρ.z.rl 2) (firstPair (ρ.z.rl 1) (ρ.i .i64 2)) (ρ.l 1002) ∧ (ρ.z.rl 2).length ≤ 40) ∧ (((ρ.z.rl 2).length + 2 : Nat) < (ρ.z.rl 2).length + 5 + ((ρ.z.rl 2).length - (ρ.i .i64 11970).toNat)) from ?_)
  obtain ⟨o, h2, hb⟩ := hi
  exact ⟨⟨o.s, hb⟩, by omega⟩
theorem vceach5_33 : VC TTeach inveach mseach 5 teach5 weach5_33 := by
  intro ρ kn hi hp
  have hi : iveach5 ρ := hi
  unfold iveach5 at hi
  have hF : ρ.z.F = lnk.Φ := kn.F
  simp only [h_nil, h_cons, d_le, d_eq, d_not, d_var, d_lit, d_cel, d_leq, d_fn, d_and, d_iff, IE.den, LE.den, AL.den, lenV, true_and, and_true, pceach5_55, pceach5_47, pceach5_39, pceach5_35, pceach5_31, pceach5_27, pceach5_23, pceach5_16, pceach5_11, pceach5_5, pceach5_2, pceach5_0, hF, pb1, pb2, pb4, pb5, pb6] at hp
  obtain ⟨p1, p2, p3, p4, p5, p6, p7, p8, p9, p10, p11, p12, p13, p14, p15, p16, p17, p18, p19, p20, p21, p22, p23, p24, p25, p26, p27, p28, p29, p30, p31⟩ := hp
  refine (show (Stop (ρ.z.rl 2) (firstPair (ρ.z.rl 1) (ρ.i .i64 2)) (ρ.l 1002) ∧ (ρ.z.rl 2).length ≤ 40) ∧ (((ρ.z.rl 2).length + 2 : Nat) < (ρ.z.rl 2).length + 5 + ((ρ.z.rl 2).length - (ρ.i .i64 11970).toNat)) from ?_)
  obtain ⟨o, h2, hb⟩ := hi
  exact ⟨⟨o.s, hb⟩, by omega⟩
theorem vceach5_35 : VC TTeach inveach mseach 5 teach5 weach5_35 := by
  intro ρ kn hi hp
  have hi : iveach5 ρ := hi
  unfold iveach5 at hi
  have hF : ρ.z.F = lnk.Φ := kn.F
  simp only [h_nil, h_cons, d_le, d_eq, d_not, d_var, d_lit, d_cel, d_leq, d_fn, d_and, d_iff, IE.den, LE.den, AL.den, lenV, true_and, and_true, pceach5_35, pceach5_31, pceach5_27, pceach5_23, pceach5_16, pceach5_11, pceach5_5, pceach5_2, pceach5_0, hF, pb1, pb2, pb4, pb5, pb6] at hp
  obtain ⟨p1, p2, p3, p4, p5, p6, p7, p8, p9, p10, p11, p12, p13, p14, p15, p16, p17, p18, p19, p20, p21, p22, p23, p24, p25, p26, p27, p28⟩ := hp
  refine (show (Over (ρ.z.rl 2) (firstPair (ρ.z.rl 1) (ρ.i .i64 2)) ((ρ.l 11974).set (ρ.i .i64 2).toNat [Go.Value.int .i64 (clampK .i64 (intV (celV (ρ.z.rl 2) (ρ.i .i64 11970) 0))), Go.Value.int .i64 (clampK .i64 (intV (celV (ρ.z.rl 2) (ρ.i .i64 11970) 1)))]) (ρ.i .i64 2) (ρ.l 1002) ((ρ.i .i64 11972) + (1 : Int)) ((ρ.i .i64 11970) + (1 : Int)) ∧ (((ρ.i .i64 11972) + (1 : Int)) = 0 ∨ ((ρ.i .i64 11972) + (1 : Int)) < (ρ.i .i64 3)) ∧ (ρ.z.rl 2).length ≤ 40) ∧ (((ρ.z.rl 2).length + 5 + ((ρ.z.rl 2).length - ((ρ.i .i64 11970) + (1 : Int)).toNat) : Nat) < (ρ.z.rl 2).length + 5 + ((ρ.z.rl 2).length - (ρ.i .i64 11970).toNat)) from ?_)
  obtain ⟨o, h2, hb⟩ := hi
  first
    | exact ⟨⟨over_skip o (by omega) rfl rfl (by assumption) (by omega), h2, hb⟩, by omega⟩
    | (have r := over_take (by omega) o (by omega) (by omega) (by omega) rfl rfl (by assumption) (by omega)
       exact ⟨⟨r.next, .inr (by omega), hb⟩, by omega⟩)
theorem vceach5_38 : VC TTeach inveach mseach 5 teach5 weach5_38 := by
  intro ρ kn hi hp
  have hi : iveach5 ρ := hi
  unfold iveach5 at hi
  have hF : ρ.z.F = lnk.Φ := kn.F
  simp only [h_nil, h_cons, d_le, d_eq, d_not, d_var, d_lit, d_cel, d_leq, d_fn, d_and, d_iff, IE.den, LE.den, AL.den, lenV, true_and, and_true, pceach5_40, pceach5_36, pceach5_32, pceach5_28, pceach5_24, pceach5_16, pceach5_11, pceach5_5, pceach5_2, pceach5_0, hF, pb1, pb2, pb4, pb5, pb6] at hp
  obtain ⟨p1, p2, p3, p4, p5, p6, p7, p8, p9, p10, p11, p12, p13, p14, p15, p16, p17, p18, p19, p20, p21, p22, p23, p24, p25, p26, p27, p28, p29⟩ := hp
  refine (show (Stop (ρ.z.rl 2) (firstPair (ρ.z.rl 1) (ρ.i .i64 2)) (ρ.l 1002) ∧ (ρ.z.rl 2).length ≤ 40) ∧ (((ρ.z.rl 2).length + 2 : Nat) < (ρ.z.rl 2).length + 5 + ((ρ.z.rl 2).length - (ρ.i .i64 11970).toNat)) from ?_)
  obtain ⟨o, h2, hb⟩ := hi
  exact ⟨⟨o.s, hb⟩, by omega⟩
theorem vceach5_39 : VC TTeach inveach mseach 5 teach5 weach5_39 := by
  intro ρ kn hi hp
  have hi : iveach5 ρ := hi
  unfold iveach5 at hi
  have hF : ρ.z.F = lnk.Φ := kn.F
  simp only [h_nil, h_cons, d_le, d_eq, d_not, d_var, d_lit, d_cel, d_leq, d_fn, d_and, d_iff, IE.den, LE.den, AL.den, lenV, true_and, and_true, pceach5_48, pceach5_40, pceach5_36, pceach5_32, pceach5_28, pceach5_24, pceach5_16, pceach5_11, pceach5_5, pceach5_2, pceach5_0, hF, pb1, pb2, pb4, pb5, pb6] at hp
  obtain ⟨p1, p2, p3, p4, p5, p6, p7, p8, p9, p10, p11, p12, p13, p14, p15, p16, p17, p18, p19, p20, p21, p22, p23, p24, p25, p26, p27, p28, p29, p30⟩ := hp
  refine (show (Stop (ρ.z.rl 2) (firstPair (ρ.z.rl 1) (ρ.i .i64 2)) (ρ.l 1002) ∧ (ρ.z.rl 2).length ≤ 40) ∧ (((ρ.z.rl 2).length + 2 : Nat) < (ρ.z.rl 2).length + 5 + ((ρ.z.rl 2).length - (ρ.i .i64 11970).toNat)) from ?_)
  obtain ⟨o, h2, hb⟩ := hi
  exact ⟨⟨o.s, hb⟩, by omega⟩
theorem vceach5_41 : VC TTeach inveach mseach 5 teach5 weach5_41 := by
  intro ρ kn hi hp
  have hi : iveach5 ρ := hi
  unfold iveach5 at hi
  have hF : ρ.z.F = lnk.Φ := kn.F
  simp only [h_nil, h_cons, d_le, d_eq, d_not, d_var, d_lit, d_cel, d_leq, d_fn, d_and, d_iff, IE.den, LE.den, AL.den, lenV, true_and, and_true, pceach5_41, pceach5_36, pceach5_32, pceach5_28, pceach5_24, pceach5_16, pceach5_11, pceach5_5, pceach5_2, pceach5_0, hF, pb1, pb2, pb4, pb5, pb6] at hp
  obtain ⟨p1, p2, p3, p4, p5, p6, p7, p8, p9, p10, p11, p12, p13, p14, p15, p16, p17, p18, p19, p20, p21, p22, p23, p24, p25, p26, p27, p28, p29⟩ := hp
  refine (show (Stop (ρ.z.rl 2) (firstPair (ρ.z.rl 1) (ρ.i .i64 2)) (ρ.l 1002) ∧ (ρ.z.rl 2).length ≤ 40) ∧ (((ρ.z.rl 2).length + 2 : Nat) < (ρ.z.rl 2).length + 5 + ((ρ.z.rl 2).length - (ρ.i .i64 11970).toNat)) from ?_)
  obtain ⟨o, h2, hb⟩ := hi
  exact ⟨⟨o.s, hb⟩, by omega⟩
theorem vceach5_42 : VC TTeach inveach mseach 5 teach5 weach5_42 := by
  intro ρ kn hi hp
  have hi : iveach5 ρ := hi
  unfold iveach5 at hi
  have hF : ρ.z.F = lnk.Φ := kn.F
  simp only [h_nil, h_cons, d_le, d_eq, d_not, d_var, d_lit, d_cel, d_leq, d_fn, d_and, d_iff, IE.den, LE.den, AL.den, lenV, true_and, and_true, pceach5_49, pceach5_41, pceach5_36, pceach5_32, pceach5_28, pceach5_24, pceach5_16, pceach5_11, pceach5_5, pceach5_2, pceach5_0, hF, pb1, pb2, pb4, pb5, pb6] at hp
  obtain ⟨p1, p2, p3, p4, p5, p6, p7, p8, p9, p10, p11, p12, p13, p14, p15, p16, p17, p18, p19, p20, p21, p22, p23, p24, p25, p26, p27, p28, p29, p30⟩ := hp
  refine (show (Stop (ρ.z.rl 2) (firstPair (ρ.z.rl 1) (ρ.i .i64 2)) (ρ.l 1002) ∧ (ρ.z.rl 2).length ≤ 40) ∧ (((ρ.z.rl 2).length + 2 : Nat) < (ρ.z.rl 2).length + 5 + ((ρ.z.rl 2).length - (ρ.i .i64 11970).toNat)) from ?_)
  obtain ⟨o, h2, hb⟩ := hi
  exact ⟨⟨o.s, hb⟩, by omega⟩
theorem vceach5_44 : VC TTeach inveach mseach 5 teach5 weach5_44 := by
  intro ρ kn hi hp
  have hi : iveach5 ρ := hi
  unfold iveach5 at hi
  have hF : ρ.z.F = lnk.Φ := kn.F
  simp only [h_nil, h_cons, d_le, d_eq, d_not, d_var, d_lit, d_cel, d_leq, d_fn, d_and, d_iff, IE.den, LE.den, AL.den, lenV, true_and, and_true, pceach5_32, pceach5_28, pceach5_24, pceach5_16, pceach5_11, pceach5_5, pceach5_2, pceach5_0, hF, pb1, pb2, pb4, pb5, pb6] at hp
  obtain ⟨p1, p2, p3, p4, p5, p6, p7, p8, p9, p10, p11, p12, p13, p14, p15, p16, p17, p18, p19, p20, p21, p22, p23, p24, p25, p26, p27⟩ := hp
  refine (show (Over (ρ.z.rl 2) (firstPair (ρ.z.rl 1) (ρ.i .i64 2)) ((ρ.l 11974).set (ρ.i .i64 2).toNat [Go.Value.int .i64 (clampK .i64 (intV (celV (ρ.z.rl 2) (ρ.i .i64 11970) 0))), Go.Value.int .i64 (clampK .i64 (intV (celV (ρ.z.rl 2) (ρ.i .i64 11970) 1)))]) (ρ.i .i64 2) (ρ.l 1002) ((ρ.i .i64 11972) + (1 : Int)) ((ρ.i .i64 11970) + (1 : Int)) ∧ (((ρ.i .i64 11972) + (1 : Int)) = 0 ∨ ((ρ.i .i64 11972) + (1 : Int)) < (ρ.i .i64 3)) ∧ (ρ.z.rl 2).length ≤ 40) ∧ (((ρ.z.rl 2).length + 5 + ((ρ.z.rl 2).length - ((ρ.i .i64 11970) + (1 : Int)).toNat) : Nat) < (ρ.z.rl 2).length + 5 + ((ρ.z.rl 2).length - (ρ.i .i64 11970).toNat)) from ?_)
  obtain ⟨o, h2, hb⟩ := hi
  first
    | exact ⟨⟨over_skip o (by omega) rfl rfl (by assumption) (by omega), h2, hb⟩, by omega⟩
    | (have r := over_take (by omega) o (by omega) (by omega) (by omega) rfl rfl (by assumption) (by omega)
       exact ⟨⟨r.next, .inr (by omega), hb⟩, by omega⟩)
theorem vceach5_46 : VC TTeach inveach mseach 5 teach5 weach5_46 := by
  intro ρ kn hi hp
  have hi : iveach5 ρ := hi
  unfold iveach5 at hi
  have hF : ρ.z.F = lnk.Φ := kn.F
  simp only [h_nil, h_cons, d_le, d_eq, d_not, d_var, d_lit, d_cel, d_leq, d_fn, d_and, d_iff, IE.den, LE.den, AL.den, lenV, true_and, and_true, pceach5_17, pceach5_12, pceach5_5, pceach5_2, pceach5_0, hF, pb1, pb2, pb4, pb5, pb6] at hp
  obtain ⟨p1, p2, p3, p4, p5, p6, p7, p8, p9, p10, p11, p12, p13, p14, p15, p16, p17, p18, p19, p20, p21, p22, p23, p24⟩ := hp
  refine (show (Over (ρ.z.rl 2) (firstPair (ρ.z.rl 1) (ρ.i .i64 2)) (ρ.l 11974) (ρ.i .i64 2) (ρ.l 1002) (ρ.i .i64 11972) ((ρ.i .i64 11970) + (1 : Int)) ∧ ((ρ.i .i64 11972) = 0 ∨ (ρ.i .i64 11972) < (ρ.i .i64 3)) ∧ (ρ.z.rl 2).length ≤ 40) ∧ (((ρ.z.rl 2).length + 5 + ((ρ.z.rl 2).length - ((ρ.i .i64 11970) + (1 : Int)).toNat) : Nat) < (ρ.z.rl 2).length + 5 + ((ρ.z.rl 2).length - (ρ.i .i64 11970).toNat)) from ?_)
  obtain ⟨o, h2, hb⟩ := hi
  first
    | exact ⟨⟨over_skip o (by omega) rfl rfl (by assumption) (by omega), h2, hb⟩, by omega⟩
    | (have r := over_take (by omega) o (by omega) (by omega) (by omega) rfl rfl (by assumption) (by omega)
       exact ⟨⟨r.next, .inr (by omega), hb⟩, by omega⟩)
theorem vceach5_47 : VC TTeach inveach mseach 5 teach5 weach5_47 := by
  intro ρ kn hi hp
  have hi : iveach5 ρ := hi
  unfold iveach5 at hi
  have hF : ρ.z.F = lnk.Φ := kn.F
  simp only [h_nil, h_cons, d_le, d_eq, d_not, d_var, d_lit, d_cel, d_leq, d_fn, d_and, d_iff, IE.den, LE.den, AL.den, lenV, true_and, and_true, pceach5_17, pceach5_12, pceach5_5, pceach5_2, pceach5_0, hF, pb1, pb2, pb4, pb5, pb6] at hp
  obtain ⟨p1, p2, p3, p4, p5, p6, p7, p8, p9, p10, p11, p12, p13, p14, p15, p16, p17, p18, p19, p20, p21, p22, p23, p24⟩ := hp
  refine (show (Over (ρ.z.rl 2) (firstPair (ρ.z.rl 1) (ρ.i .i64 2)) (ρ.l 11974) (ρ.i .i64 2) (ρ.l 1002) (ρ.i .i64 11972) ((ρ.i .i64 11970) + (1 : Int)) ∧ ((ρ.i .i64 11972) = 0 ∨ (ρ.i .i64 11972) < (ρ.i .i64 3)) ∧ (ρ.z.rl 2).length ≤ 40) ∧ (((ρ.z.rl 2).length + 5 + ((ρ.z.rl 2).length - ((ρ.i .i64 11970) + (1 : Int)).toNat) : Nat) < (ρ.z.rl 2).length + 5 + ((ρ.z.rl 2).length - (ρ.i .i64 11970).toNat)) from ?_)
  obtain ⟨o, h2, hb⟩ := hi
  first
    | exact ⟨⟨over_skip o (by omega) rfl rfl (by assumption) (by omega), h2, hb⟩, by omega⟩
    | (have r := over_take (by omega) o (by omega) (by omega) (by omega) rfl rfl (by assumption) (by omega)
       exact ⟨⟨r.next, .inr (by omega), hb⟩, by omega⟩)
theorem vceach5_48 : VC TTeach inveach mseach 5 teach5 weach5_48 := by
  intro ρ kn hi hp
  have hi : iveach5 ρ := hi
  unfold iveach5 at hi
  have hF : ρ.z.F = lnk.Φ := kn.F
  simp only [h_nil, h_cons, d_le, d_eq, d_not, d_var, d_lit, d_cel, d_leq, d_fn, d_and, d_iff, IE.den, LE.den, AL.den, lenV, true_and, and_true, pceach5_12, pceach5_5, pceach5_2, pceach5_0, hF, pb1, pb2, pb4, pb5, pb6] at hp
  obtain ⟨p1, p2, p3, p4, p5, p6, p7, p8, p9, p10, p11, p12, p13, p14, p15, p16, p17, p18, p19, p20, p21, p22, p23⟩ := hp
  refine (show (Over (ρ.z.rl 2) (firstPair (ρ.z.rl 1) (ρ.i .i64 2)) (ρ.l 11974) (ρ.i .i64 2) (ρ.l 1002) (ρ.i .i64 11972) ((ρ.i .i64 11970) + (1 : Int)) ∧ ((ρ.i .i64 11972) = 0 ∨ (ρ.i .i64 11972) < (ρ.i .i64 3)) ∧ (ρ.z.rl 2).length ≤ 40) ∧ (((ρ.z.rl 2).length + 5 + ((ρ.z.rl 2).length - ((ρ.i .i64 11970) + (1 : Int)).toNat) : Nat) < (ρ.z.rl 2).length + 5 + ((ρ.z.rl 2).length - (ρ.i .i64 11970).toNat)) from ?_)
  obtain ⟨o, h2, hb⟩ := hi
  first
    | exact ⟨⟨over_skip o (by omega) rfl rfl (by assumption) (by omega), h2, hb⟩, by omega⟩
    | (have r := over_take (by omega) o (by omega) (by omega) (by omega) rfl rfl (by assumption) (by omega)
       exact ⟨⟨r.next, .inr (by omega), hb⟩, by omega⟩)
theorem vceach5_49 : VC TTeach inveach mseach 5 teach5 weach5_49 := by
  intro ρ kn hi hp
  have hi : iveach5 ρ := hi
  unfold iveach5 at hi
  have hF : ρ.z.F = lnk.Φ := kn.F
  simp only [h_nil, h_cons, d_le, d_eq, d_not, d_var, d_lit, d_cel, d_leq, d_fn, d_and, d_iff, IE.den, LE.den, AL.den, lenV, true_and, and_true, pceach5_18, pceach5_13, pceach5_6, pceach5_2, pceach5_0, hF, pb1, pb2, pb4, pb5, pb6] at hp
  obtain ⟨p1, p2, p3, p4, p5, p6, p7, p8, p9, p10, p11, p12, p13, p14, p15, p16, p17, p18, p19, p20, p21, p22, p23, p24⟩ := hp
  refine (show (Stop (ρ.z.rl 2) (firstPair (ρ.z.rl 1) (ρ.i .i64 2)) (ρ.l 1002) ∧ (ρ.z.rl 2).length ≤ 40) ∧ (((ρ.z.rl 2).length + 2 : Nat) < (ρ.z.rl 2).length + 5 + ((ρ.z.rl 2).length - (ρ.i .i64 11970).toNat)) from ?_)
  obtain ⟨o, h2, hb⟩ := hi
  exact ⟨⟨o.s, hb⟩, by omega⟩
theorem vceach5_51 : VC TTeach inveach mseach 5 teach5 weach5_51 := by
  intro ρ kn hi hp
  have hi : iveach5 ρ := hi
  unfold iveach5 at hi
  have hF : ρ.z.F = lnk.Φ := kn.F
  simp only [h_nil, h_cons, d_le, d_eq, d_not, d_var, d_lit, d_cel, d_leq, d_fn, d_and, d_iff, IE.den, LE.den, AL.den, lenV, true_and, and_true, pceach5_19, pceach5_13, pceach5_6, pceach5_2, pceach5_0, hF, pb1, pb2, pb4, pb5, pb6] at hp
  obtain ⟨p1, p2, p3, p4, p5, p6, p7, p8, p9, p10, p11, p12, p13, p14, p15, p16, p17, p18, p19, p20, p21, p22, p23, p24⟩ := hp
  refine (show (Stop (ρ.z.rl 2) (firstPair (ρ.z.rl 1) (ρ.i .i64 2)) (ρ.l 1002) ∧ (ρ.z.rl 2).length ≤ 40) ∧ (((ρ.z.rl 2).length + 2 : Nat) < (ρ.z.rl 2).length + 5 + ((ρ.z.rl 2).length - (ρ.i .i64 11970).toNat)) from ?_)
  obtain ⟨o, h2, hb⟩ := hi
  exact ⟨⟨o.s, hb⟩, by omega⟩
theorem vceach5_53 : VC TTeach inveach mseach 5 teach5 weach5_53 := by
  intro ρ kn hi hp
  have hi : iveach5 ρ := hi
  unfold iveach5 at hi
  have hF : ρ.z.F = lnk.Φ := kn.F
  simp only [h_nil, h_cons, d_le, d_eq, d_not, d_var, d_lit, d_cel, d_leq, d_fn, d_and, d_iff, IE.den, LE.den, AL.den, lenV, true_and, and_true, pceach5_20, pceach5_14, pceach5_6, pceach5_2, pceach5_0, hF, pb1, pb2, pb4, pb5, pb6] at hp
  obtain ⟨p1, p2, p3, p4, p5, p6, p7, p8, p9, p10, p11, p12, p13, p14, p15, p16, p17, p18, p19, p20, p21, p22, p23, p24⟩ := hp
  refine (show (Stop (ρ.z.rl 2) (firstPair (ρ.z.rl 1) (ρ.i .i64 2)) (ρ.l 1002) ∧ (ρ.z.rl 2).length ≤ 40) ∧ (((ρ.z.rl 2).length + 2 : Nat) < (ρ.z.rl 2).length + 5 + ((ρ.z.rl 2).length - (ρ.i .i64 11970).toNat)) from ?_)
  obtain ⟨o, h2, hb⟩ := hi
  exact ⟨⟨o.s, hb⟩, by omega⟩
theorem vceach5_55 : VC TTeach inveach mseach 5 teach5 weach5_55 := by
  intro ρ kn hi hp
  have hi : iveach5 ρ := hi
  unfold iveach5 at hi
  have hF : ρ.z.F = lnk.Φ := kn.F
  simp only [h_nil, h_cons, d_le, d_eq, d_not, d_var, d_lit, d_cel, d_leq, d_fn, d_and, d_iff, IE.den, LE.den, AL.den, lenV, true_and, and_true, pceach5_21, pceach5_14, pceach5_6, pceach5_2, pceach5_0, hF, pb1, pb2, pb4, pb5, pb6] at hp
  obtain ⟨p1, p2, p3, p4, p5, p6, p7, p8, p9, p10, p11, p12, p13, p14, p15, p16, p17, p18, p19, p20, p21, p22, p23, p24⟩ := hp
  refine (show (Stop (ρ.z.rl 2) (firstPair (ρ.z.rl 1) (ρ.i .i64 2)) (ρ.l 1002) ∧ (ρ.z.rl 2).length ≤ 40) ∧ (((ρ.z.rl 2).length + 2 : Nat) < (ρ.z.rl 2).length + 5 + ((ρ.z.rl 2).length - (ρ.i .i64 11970).toNat)) from ?_)
  obtain ⟨o, h2, hb⟩ := hi
  exact ⟨⟨o.s, hb⟩, by omega⟩
def iveach6 (ρ : Rho) : Prop := Stop (ρ.z.rl 2) (firstPair (ρ.z.rl 1) (ρ.i .i64 2)) (ρ.l 1002) ∧ (ρ.z.rl 2).length ≤ 40
theorem vceach6_0 : VC TTeach inveach mseach 6 teach6 weach6_0 := by
  intro ρ kn hi hp
  have hi : iveach6 ρ := hi
  unfold iveach6 at hi
  have hF : ρ.z.F = lnk.Φ := kn.F
  simp only [h_nil, h_cons, d_le, d_eq, d_not, d_var, d_lit, d_cel, d_leq, d_fn, d_and, d_iff, IE.den, LE.den, AL.den, lenV, true_and, and_true, hF, pb1, pb2, pb4, pb5, pb6] at hp
  obtain ⟨p1, p2, p3, p4, p5, p6, p7, p8, p9, p10, p11, p12, p13, p14⟩ := hp
  refine (show (Over (ρ.z.rl 2) (firstPair (ρ.z.rl 1) (ρ.i .i64 2)) (ρ.z.rl 1) (ρ.i .i64 2) (ρ.l 1002) (0 : Int) (0 : Int) ∧ (ρ.z.rl 2).length ≤ 40) ∧ (((ρ.z.rl 2).length - (0 : Int).toNat : Nat) < (ρ.z.rl 2).length + 2) from ?_)
  obtain ⟨s, hb⟩ := hi
  exact ⟨⟨over0 s, hb⟩, by omega⟩
def iveach7 (ρ : Rho) : Prop := Over (ρ.z.rl 2) (firstPair (ρ.z.rl 1) (ρ.i .i64 2)) (ρ.l 11974) (ρ.i .i64 2) (ρ.l 1002) (ρ.i .i64 11972) (ρ.i .i64 11970) ∧ (ρ.z.rl 2).length ≤ 40
theorem vcgeach7_0 : VC TTeach inveach mseach 7 teach7 weach7_1 ∧ VC TTeach inveach mseach 7 teach7 weach7_3 ∧ VC TTeach inveach mseach 7 teach7 weach7_5 ∧ VC TTeach inveach mseach 7 teach7 weach7_7 ∧ VC TTeach inveach mseach 7 teach7 weach7_9 ∧ VC TTeach inveach mseach 7 teach7 weach7_10 ∧ VC TTeach inveach mseach 7 teach7 weach7_12 ∧ VC TTeach inveach mseach 7 teach7 weach7_13 ∧ VC TTeach inveach mseach 7 teach7 weach7_15 ∧ VC TTeach inveach mseach 7 teach7 weach7_20 := by
  refine ⟨?_, ?_, ?_, ?_, ?_, ?_, ?_, ?_, ?_, ?_⟩
  all_goals
    intro ρ kn hi hp
    have hi : iveach7 ρ := hi
    unfold iveach7 at hi
    have hF : ρ.z.F = lnk.Φ := kn.F
    simp only [h_nil, h_cons, d_le, d_eq, d_not, d_var, d_lit, d_cel, d_leq, d_fn, d_and, d_iff, IE.den, LE.den, AL.den, lenV, true_and, and_true, pceach7_1, pceach7_0, pceach7_13, pceach7_10, pceach7_7, pceach7_5, pceach7_3, pceach7_2, pceach7_17, pceach7_14, pceach7_11, pceach7_8, pceach7_18, pceach7_15, pceach7_19, pceach7_12, pceach7_16, pceach7_4, hF, pb1, pb2, pb4, pb5, pb6] at hp
    have p1 := And.left hp
    replace hp := And.right hp
    repeat (have _ := And.left hp; replace hp := And.right hp)
    exfalso
    all_goals
      obtain ⟨o, hb⟩ := hi
      have on := over_n o
      first
        | omega
        | (have k := over_end o (.inl (by omega))
           omega)
        | (have k := over_end o (.inr (stN_f (by omega) (by assumption)))
           omega)
        | (have r := over_take (by omega) o (by omega) (by omega) (by omega) rfl rfl (by assumption) (by omega)
           have r1 := r.lt
           have r2 := r.at_
           first | omega | (simp at r1; done) | exact p1 r2 | exact p1 r2.symm)
theorem vceach7_2 : VC TTeach inveach mseach 7 teach7 weach7_2 := by
  intro ρ kn hi hp
  have hi : iveach7 ρ := hi
  unfold iveach7 at hi
  have hF : ρ.z.F = lnk.Φ := kn.F
  simp only [h_nil, h_cons, d_le, d_eq, d_not, d_var, d_lit, d_cel, d_leq, d_fn, d_and, d_iff, IE.den, LE.den, AL.den, lenV, true_and, and_true, pceach7_10, pceach7_7, pceach7_5, pceach7_3, pceach7_2, pceach7_0, hF, pb1, pb2, pb4, pb5, pb6] at hp
  obtain ⟨p1, p2, p3, p4, p5, p6, p7, p8, p9, p10, p11, p12, p13, p14, p15, p16, p17, p18, p19, p20, p21, p22, p23, p24, p25⟩ := hp
  refine (show (Over (ρ.z.rl 2) (firstPair (ρ.z.rl 1) (ρ.i .i64 2)) (ρ.l 11974) (ρ.i .i64 2) (ρ.l 1002) (ρ.i .i64 11972) ((ρ.i .i64 11970) + (1 : Int)) ∧ (ρ.z.rl 2).length ≤ 40) ∧ (((ρ.z.rl 2).length - ((ρ.i .i64 11970) + (1 : Int)).toNat : Nat) < (ρ.z.rl 2).length - (ρ.i .i64 11970).toNat) from ?_)
  obtain ⟨o, hb⟩ := hi
  first
    | exact ⟨⟨over_skip o (by omega) rfl rfl (by assumption) (by omega), hb⟩, by omega⟩
    | (have r := over_take (by omega) o (by omega) (by omega) (by omega) rfl rfl (by assumption) (by omega)
       exact ⟨⟨r.next, hb⟩, by omega⟩)
theorem vceach7_4 : VC TTeach inveach mseach 7 teach7 weach7_4 := by
  intro ρ kn hi hp
  have hi : iveach7 ρ := hi
  unfold iveach7 at hi
  have hF : ρ.z.F = lnk.Φ := kn.F
  simp only [h_nil, h_cons, d_le, d_eq, d_not, d_var, d_lit, d_cel, d_leq, d_fn, d_and, d_iff, IE.den, LE.den, AL.den, lenV, true_and, and_true, pceach7_17, pceach7_13, pceach7_10, pceach7_7, pceach7_5, pceach7_3, pceach7_2, pceach7_0, hF, pb1, pb2, pb4, pb5, pb6] at hp
  obtain ⟨p1, p2, p3, p4, p5, p6, p7, p8, p9, p10, p11, p12, p13, p14, p15, p16, p17, p18, p19, p20, p21, p22, p23, p24, p25, p26, p27⟩ := hp
  refine (show (Over (ρ.z.rl 2) (firstPair (ρ.z.rl 1) (ρ.i .i64 2)) ((ρ.l 11974).set (ρ.i .i64 2).toNat [Go.Value.int .i64 (clampK .i64 (intV (celV (ρ.z.rl 2) (ρ.i .i64 11970) 0))), Go.Value.int .i64 (clampK .i64 (intV (celV (ρ.z.rl 2) (ρ.i .i64 11970) 1)))]) (ρ.i .i64 2) (ρ.l 1002) ((ρ.i .i64 11972) + (1 : Int)) ((ρ.i .i64 11970) + (1 : Int)) ∧ (ρ.z.rl 2).length ≤ 40) ∧ (((ρ.z.rl 2).length - ((ρ.i .i64 11970) + (1 : Int)).toNat : Nat) < (ρ.z.rl 2).length - (ρ.i .i64 11970).toNat) from ?_)
  obtain ⟨o, hb⟩ := hi
  first
    | exact ⟨⟨over_skip o (by omega) rfl rfl (by assumption) (by omega), hb⟩, by omega⟩
    | (have r := over_take (by omega) o (by omega) (by omega) (by omega) rfl rfl (by assumption) (by omega)
       exact ⟨⟨r.next, hb⟩, by omega⟩)
theorem vceach7_6 : VC TTeach inveach mseach 7 teach7 weach7_6 := by
  intro ρ kn hi hp
  have hi : iveach7 ρ := hi
  unfold iveach7 at hi
  have hF : ρ.z.F = lnk.Φ := kn.F
  simp only [h_nil, h_cons, d_le, d_eq, d_not, d_var, d_lit, d_cel, d_leq, d_fn, d_and, d_iff, IE.den, LE.den, AL.den, lenV, true_and, and_true, pceach7_7, pceach7_5, pceach7_3, pceach7_2, pceach7_0, hF, pb1, pb2, pb4, pb5, pb6] at hp
  obtain ⟨p1, p2, p3, p4, p5, p6, p7, p8, p9, p10, p11, p12, p13, p14, p15, p16, p17, p18, p19, p20, p21, p22, p23, p24⟩ := hp
  refine (show (Over (ρ.z.rl 2) (firstPair (ρ.z.rl 1) (ρ.i .i64 2)) (ρ.l 11974) (ρ.i .i64 2) (ρ.l 1002) (ρ.i .i64 11972) ((ρ.i .i64 11970) + (1 : Int)) ∧ (ρ.z.rl 2).length ≤ 40) ∧ (((ρ.z.rl 2).length - ((ρ.i .i64 11970) + (1 : Int)).toNat : Nat) < (ρ.z.rl 2).length - (ρ.i .i64 11970).toNat) from ?_)
  obtain ⟨o, hb⟩ := hi
  first
    | exact ⟨⟨over_skip o (by omega) rfl rfl (by assumption) (by omega), hb⟩, by omega⟩
    | (have r := over_take (by omega) o (by omega) (by omega) (by omega) rfl rfl (by assumption) (by omega)
       exact ⟨⟨r.next, hb⟩, by omega⟩)
theorem vceach7_8 : VC TTeach inveach mseach 7 teach7 weach7_8 := by
  intro ρ kn hi hp
  have hi : iveach7 ρ := hi
  unfold iveach7 at hi
  have hF : ρ.z.F = lnk.Φ := kn.F
  simp only [h_nil, h_cons, d_le, d_eq, d_not, d_var, d_lit, d_cel, d_leq, d_fn, d_and, d_iff, IE.den, LE.den, AL.den, lenV, true_and, and_true, pceach7_18, pceach7_14, pceach7_11, pceach7_8, pceach7_5, pceach7_3, pceach7_2, pceach7_0, hF, pb1, pb2, pb4, pb5, pb6] at hp
  obtain ⟨p1, p2, p3, p4, p5, p6, p7, p8, p9, p10, p11, p12, p13, p14, p15, p16, p17, p18, p19, p20, p21, p22, p23, p24, p25, p26, p27⟩ := hp
  refine (show (Over (ρ.z.rl 2) (firstPair (ρ.z.rl 1) (ρ.i .i64 2)) ((ρ.l 11974).set (ρ.i .i64 2).toNat [Go.Value.int .i64 (clampK .i64 (intV (celV (ρ.z.rl 2) (ρ.i .i64 11970) 0))), Go.Value.int .i64 (clampK .i64 (intV (celV (ρ.z.rl 2) (ρ.i .i64 11970) 1)))]) (ρ.i .i64 2) (ρ.l 1002) ((ρ.i .i64 11972) + (1 : Int)) ((ρ.i .i64 11970) + (1 : Int)) ∧ (ρ.z.rl 2).length ≤ 40) ∧ (((ρ.z.rl 2).length - ((ρ.i .i64 11970) + (1 : Int)).toNat : Nat) < (ρ.z.rl 2).length - (ρ.i .i64 11970).toNat) from ?_)
  obtain ⟨o, hb⟩ := hi
  first
    | exact ⟨⟨over_skip o (by omega) rfl rfl (by assumption) (by omega), hb⟩, by omega⟩
    | (have r := over_take (by omega) o (by omega) (by omega) (by omega) rfl rfl (by assumption) (by omega)
       exact ⟨⟨r.next, hb⟩, by omega⟩)
theorem vceach7_11 : VC TTeach inveach mseach 7 teach7 weach7_11 := by
  intro ρ kn hi hp
  have hi : iveach7 ρ := hi
  unfold iveach7 at hi
  have hF : ρ.z.F = lnk.Φ := kn.F
  simp only [h_nil, h_cons, d_le, d_eq, d_not, d_var, d_lit, d_cel, d_leq, d_fn, d_and, d_iff, IE.den, LE.den, AL.den, lenV, true_and, and_true, pceach7_19, pceach7_15, pceach7_11, pceach7_8, pceach7_5, pceach7_3, pceach7_2, pceach7_0, hF, pb1, pb2, pb4, pb5, pb6] at hp
  obtain ⟨p1, p2, p3, p4, p5, p6, p7, p8, p9, p10, p11, p12, p13, p14, p15, p16, p17, p18, p19, p20, p21, p22, p23, p24, p25, p26, p27⟩ := hp
  refine (show (Over (ρ.z.rl 2) (firstPair (ρ.z.rl 1) (ρ.i .i64 2)) ((ρ.l 11974).set (ρ.i .i64 2).toNat [Go.Value.int .i64 (clampK .i64 (intV (celV (ρ.z.rl 2) (ρ.i .i64 11970) 0))), Go.Value.int .i64 (clampK .i64 (intV (celV (ρ.z.rl 2) (ρ.i .i64 11970) 1)))]) (ρ.i .i64 2) (ρ.l 1002) ((ρ.i .i64 11972) + (1 : Int)) ((ρ.i .i64 11970) + (1 : Int)) ∧ (ρ.z.rl 2).length ≤ 40) ∧ (((ρ.z.rl 2).length - ((ρ.i .i64 11970) + (1 : Int)).toNat : Nat) < (ρ.z.rl 2).length - (ρ.i .i64 11970).toNat) from ?_)
  obtain ⟨o, hb⟩ := hi
  first
    | exact ⟨⟨over_skip o (by omega) rfl rfl (by assumption) (by omega), hb⟩, by omega⟩
    | (have r := over_take (by omega) o (by omega) (by omega) (by omega) rfl rfl (by assumption) (by omega)
       exact ⟨⟨r.next, hb⟩, by omega⟩)
theorem vceach7_14 : VC TTeach inveach mseach 7 teach7 weach7_14 := by
  intro ρ kn hi hp
  have hi : iveach7 ρ := hi
  unfold iveach7 at hi
  have hF : ρ.z.F = lnk.Φ := kn.F
  simp only [h_nil, h_cons, d_le, d_eq, d_not, d_var, d_lit, d_cel, d_leq, d_fn, d_and, d_iff, IE.den, LE.den, AL.den, lenV, true_and, and_true, pceach7_16, pceach7_12, pceach7_8, pceach7_5, pceach7_3, pceach7_2, pceach7_0, hF, pb1, pb2, pb4, pb5, pb6] at hp
  obtain ⟨p1, p2, p3, p4, p5, p6, p7, p8, p9, p10, p11, p12, p13, p14, p15, p16, p17, p18, p19, p20, p21, p22, p23, p24, p25, p26⟩ := hp
  refine (show (Over (ρ.z.rl 2) (firstPair (ρ.z.rl 1) (ρ.i .i64 2)) ((ρ.l 11974).set (ρ.i .i64 2).toNat [Go.Value.int .i64 (clampK .i64 (intV (celV (ρ.z.rl 2) (ρ.i .i64 11970) 0))), Go.Value.int .i64 (clampK .i64 (intV (celV (ρ.z.rl 2) (ρ.i .i64 11970) 1)))]) (ρ.i .i64 2) (ρ.l 1002) ((ρ.i .i64 11972) + (1 : Int)) ((ρ.i .i64 11970) + (1 : Int)) ∧ (ρ.z.rl 2).length ≤ 40) ∧ (((ρ.z.rl 2).length - ((ρ.i .i64 11970) + (1 : Int)).toNat : Nat) < (ρ.z.rl 2).length - (ρ.i .i64 11970).toNat) from ?_)
  obtain ⟨o, hb⟩ := hi
  first
    | exact ⟨⟨over_skip o (by omega) rfl rfl (by assumption) (by omega), hb⟩, by omega⟩
    | (have r := over_take (by omega) o (by omega) (by omega) (by omega) rfl rfl (by assumption) (by omega)
       exact ⟨⟨r.next, hb⟩, by omega⟩)
theorem vceach7_16 : VC TTeach inveach mseach 7 teach7 weach7_16 := by
  intro ρ kn hi hp
  have hi : iveach7 ρ := hi
  unfold iveach7 at hi
  have hF : ρ.z.F = lnk.Φ := kn.F
  simp only [h_nil, h_cons, d_le, d_eq, d_not, d_var, d_lit, d_cel, d_leq, d_fn, d_and, d_iff, IE.den, LE.den, AL.den, lenV, true_and, and_true, pceach7_9, pceach7_6, pceach7_3, pceach7_2, pceach7_0, hF, pb1, pb2, pb4, pb5, pb6] at hp
  obtain ⟨p1, p2, p3, p4, p5, p6, p7, p8, p9, p10, p11, p12, p13, p14, p15, p16, p17, p18, p19, p20, p21, p22, p23, p24⟩ := hp
  refine (show (Over (ρ.z.rl 2) (firstPair (ρ.z.rl 1) (ρ.i .i64 2)) (ρ.l 11974) (ρ.i .i64 2) (ρ.l 1002) (ρ.i .i64 11972) ((ρ.i .i64 11970) + (1 : Int)) ∧ (ρ.z.rl 2).length ≤ 40) ∧ (((ρ.z.rl 2).length - ((ρ.i .i64 11970) + (1 : Int)).toNat : Nat) < (ρ.z.rl 2).length - (ρ.i .i64 11970).toNat) from ?_)
  obtain ⟨o, hb⟩ := hi
  first
    | exact ⟨⟨over_skip o (by omega) rfl rfl (by assumption) (by omega), hb⟩, by omega⟩
    | (have r := over_take (by omega) o (by omega) (by omega) (by omega) rfl rfl (by assumption) (by omega)
       exact ⟨⟨r.next, hb⟩, by omega⟩)
theorem vceach7_17 : VC TTeach inveach mseach 7 teach7 weach7_17 := by
  intro ρ kn hi hp
  have hi : iveach7 ρ := hi
  unfold iveach7 at hi
  have hF : ρ.z.F = lnk.Φ := kn.F
  simp only [h_nil, h_cons, d_le, d_eq, d_not, d_var, d_lit, d_cel, d_leq, d_fn, d_and, d_iff, IE.den, LE.den, AL.den, lenV, true_and, and_true, pceach7_9, pceach7_6, pceach7_3, pceach7_2, pceach7_0, hF, pb1, pb2, pb4, pb5, pb6] at hp
  obtain ⟨p1, p2, p3, p4, p5, p6, p7, p8, p9, p10, p11, p12, p13, p14, p15, p16, p17, p18, p19, p20, p21, p22, p23, p24⟩ := hp
  refine (show (Over (ρ.z.rl 2) (firstPair (ρ.z.rl 1) (ρ.i .i64 2)) (ρ.l 11974) (ρ.i .i64 2) (ρ.l 1002) (ρ.i .i64 11972) ((ρ.i .i64 11970) + (1 : Int)) ∧ (ρ.z.rl 2).length ≤ 40) ∧ (((ρ.z.rl 2).length - ((ρ.i .i64 11970) + (1 : Int)).toNat : Nat) < (ρ.z.rl 2).length - (ρ.i .i64 11970).toNat) from ?_)
  obtain ⟨o, hb⟩ := hi
  first
    | exact ⟨⟨over_skip o (by omega) rfl rfl (by assumption) (by omega), hb⟩, by omega⟩
    | (have r := over_take (by omega) o (by omega) (by omega) (by omega) rfl rfl (by assumption) (by omega)
       exact ⟨⟨r.next, hb⟩, by omega⟩)
theorem vceach7_18 : VC TTeach inveach mseach 7 teach7 weach7_18 := by
  intro ρ kn hi hp
  have hi : iveach7 ρ := hi
  unfold iveach7 at hi
  have hF : ρ.z.F = lnk.Φ := kn.F
  simp only [h_nil, h_cons, d_le, d_eq, d_not, d_var, d_lit, d_cel, d_leq, d_fn, d_and, d_iff, IE.den, LE.den, AL.den, lenV, true_and, and_true, pceach7_6, pceach7_3, pceach7_2, pceach7_0, hF, pb1, pb2, pb4, pb5, pb6] at hp
  obtain ⟨p1, p2, p3, p4, p5, p6, p7, p8, p9, p10, p11, p12, p13, p14, p15, p16, p17, p18, p19, p20, p21, p22, p23⟩ := hp
  refine (show (Over (ρ.z.rl 2) (firstPair (ρ.z.rl 1) (ρ.i .i64 2)) (ρ.l 11974) (ρ.i .i64 2) (ρ.l 1002) (ρ.i .i64 11972) ((ρ.i .i64 11970) + (1 : Int)) ∧ (ρ.z.rl 2).length ≤ 40) ∧ (((ρ.z.rl 2).length - ((ρ.i .i64 11970) + (1 : Int)).toNat : Nat) < (ρ.z.rl 2).length - (ρ.i .i64 11970).toNat) from ?_)
  obtain ⟨o, hb⟩ := hi
  first
    | exact ⟨⟨over_skip o (by omega) rfl rfl (by assumption) (by omega), hb⟩, by omega⟩
    | (have r := over_take (by omega) o (by omega) (by omega) (by omega) rfl rfl (by assumption) (by omega)
       exact ⟨⟨r.next, hb⟩, by omega⟩)
def iveach8 (ρ : Rho) : Prop := Over (ρ.z.rl 2) (firstPair (ρ.z.rl 1) (ρ.i .i64 2)) (ρ.z.rl 1) (ρ.i .i64 2) [] 0 (ρ.i .i64 281969) ∧ (ρ.z.rl 2).length ≤ 40
theorem vcgeach8_0 : VC TTeach inveach mseach 8 teach8 weach8_2 ∧ VC TTeach inveach mseach 8 teach8 weach8_4 ∧ VC TTeach inveach mseach 8 teach8 weach8_5 ∧ VC TTeach inveach mseach 8 teach8 weach8_6 := by
  refine ⟨?_, ?_, ?_, ?_⟩
  all_goals
    intro ρ kn hi hp
    have hi : iveach8 ρ := hi
    unfold iveach8 at hi
    have hF : ρ.z.F = lnk.Φ := kn.F
    simp only [h_nil, h_cons, d_le, d_eq, d_not, d_var, d_lit, d_cel, d_leq, d_fn, d_and, d_iff, IE.den, LE.den, AL.den, lenV, true_and, and_true, pceach8_8, pceach8_5, pceach8_3, pceach8_2, pceach8_1, pceach8_0, pceach8_9, pceach8_6, hF, pb1, pb2, pb4, pb5, pb6] at hp
    have p1 := And.left hp
    replace hp := And.right hp
    repeat (have _ := And.left hp; replace hp := And.right hp)
    exfalso
    all_goals
      obtain ⟨o, hb⟩ := hi
      have on := over_n o
      first
        | omega
        | (have k := over_end o (.inl (by omega))
           omega)
        | (have k := over_end o (.inr (stN_f (by omega) (by assumption)))
           omega)
        | (have r := over_take (by omega) o (by omega) (by omega) (by omega) rfl rfl (by assumption) (by omega)
           have r1 := r.lt
           have r2 := r.at_
           first | omega | (simp at r1; done) | exact p1 r2 | exact p1 r2.symm)
theorem vceach8_1 : VC TTeach inveach mseach 8 teach8 weach8_1 := by
  intro ρ kn hi hp
  have hi : iveach8 ρ := hi
  unfold iveach8 at hi
  have hF : ρ.z.F = lnk.Φ := kn.F
  simp only [h_nil, h_cons, d_le, d_eq, d_not, d_var, d_lit, d_cel, d_leq, d_fn, d_and, d_iff, IE.den, LE.den, AL.den, lenV, true_and, and_true, pceach8_8, pceach8_5, pceach8_3, pceach8_2, pceach8_1, pceach8_0, hF, pb1, pb2, pb4, pb5, pb6] at hp
  obtain ⟨p1, p2, p3, p4, p5, p6, p7, p8, p9, p10, p11, p12, p13, p14, p15, p16, p17, p18, p19, p20, p21⟩ := hp
  refine (show (Over (ρ.z.rl 2) (firstPair (ρ.z.rl 1) (ρ.i .i64 2)) (ρ.z.rl 1) (ρ.i .i64 2) [] 0 ((ρ.i .i64 281969) + (1 : Int)) ∧ (ρ.z.rl 2).length ≤ 40) ∧ (((ρ.z.rl 2).length - ((ρ.i .i64 281969) + (1 : Int)).toNat : Nat) < (ρ.z.rl 2).length - (ρ.i .i64 281969).toNat) from ?_)
  obtain ⟨o, hb⟩ := hi
  exact ⟨⟨over_skip o (by omega) rfl rfl (by assumption) (by omega), hb⟩, by omega⟩
theorem vceach8_3 : VC TTeach inveach mseach 8 teach8 weach8_3 := by
  intro ρ kn hi hp
  have hi : iveach8 ρ := hi
  unfold iveach8 at hi
  have hF : ρ.z.F = lnk.Φ := kn.F
  simp only [h_nil, h_cons, d_le, d_eq, d_not, d_var, d_lit, d_cel, d_leq, d_fn, d_and, d_iff, IE.den, LE.den, AL.den, lenV, true_and, and_true, pceach8_5, pceach8_3, pceach8_2, pceach8_1, pceach8_0, hF, pb1, pb2, pb4, pb5, pb6] at hp
  obtain ⟨p1, p2, p3, p4, p5, p6, p7, p8, p9, p10, p11, p12, p13, p14, p15, p16, p17, p18, p19, p20⟩ := hp
  refine (show (Over (ρ.z.rl 2) (firstPair (ρ.z.rl 1) (ρ.i .i64 2)) (ρ.z.rl 1) (ρ.i .i64 2) [] 0 ((ρ.i .i64 281969) + (1 : Int)) ∧ (ρ.z.rl 2).length ≤ 40) ∧ (((ρ.z.rl 2).length - ((ρ.i .i64 281969) + (1 : Int)).toNat : Nat) < (ρ.z.rl 2).length - (ρ.i .i64 281969).toNat) from ?_)
  obtain ⟨o, hb⟩ := hi
  exact ⟨⟨over_skip o (by omega) rfl rfl (by assumption) (by omega), hb⟩, by omega⟩
theorem vceach8_7 : VC TTeach inveach mseach 8 teach8 weach8_7 := by
  intro ρ kn hi hp
  have hi : iveach8 ρ := hi
  unfold iveach8 at hi
  have hF : ρ.z.F = lnk.Φ := kn.F
  simp only [h_nil, h_cons, d_le, d_eq, d_not, d_var, d_lit, d_cel, d_leq, d_fn, d_and, d_iff, IE.den, LE.den, AL.den, lenV, true_and, and_true, pceach8_7, pceach8_4, pceach8_2, pceach8_1, pceach8_0, hF, pb1, pb2, pb4, pb5, pb6] at hp
  obtain ⟨p1, p2, p3, p4, p5, p6, p7, p8, p9, p10, p11, p12, p13, p14, p15, p16, p17, p18, p19, p20⟩ := hp
  refine (show (Over (ρ.z.rl 2) (firstPair (ρ.z.rl 1) (ρ.i .i64 2)) (ρ.z.rl 1) (ρ.i .i64 2) [] 0 ((ρ.i .i64 281969) + (1 : Int)) ∧ (ρ.z.rl 2).length ≤ 40) ∧ (((ρ.z.rl 2).length - ((ρ.i .i64 281969) + (1 : Int)).toNat : Nat) < (ρ.z.rl 2).length - (ρ.i .i64 281969).toNat) from ?_)
  obtain ⟨o, hb⟩ := hi
  exact ⟨⟨over_skip o (by omega) rfl rfl (by assumption) (by omega), hb⟩, by omega⟩
theorem vceach8_8 : VC TTeach inveach mseach 8 teach8 weach8_8 := by
  intro ρ kn hi hp
  have hi : iveach8 ρ := hi
  unfold iveach8 at hi
  have hF : ρ.z.F = lnk.Φ := kn.F
  simp only [h_nil, h_cons, d_le, d_eq, d_not, d_var, d_lit, d_cel, d_leq, d_fn, d_and, d_iff, IE.den, LE.den, AL.den, lenV, true_and, and_true, pceach8_7, pceach8_4, pceach8_2, pceach8_1, pceach8_0, hF, pb1, pb2, pb4, pb5, pb6] at hp
  obtain ⟨p1, p2, p3, p4, p5, p6, p7, p8, p9, p10, p11, p12, p13, p14, p15, p16, p17, p18, p19, p20⟩ := hp
  refine (show (Over (ρ.z.rl 2) (firstPair (ρ.z.rl 1) (ρ.i .i64 2)) (ρ.z.rl 1) (ρ.i .i64 2) [] 0 ((ρ.i .i64 281969) + (1 : Int)) ∧ (ρ.z.rl 2).length ≤ 40) ∧ (((ρ.z.rl 2).length - ((ρ.i .i64 281969) + (1 : Int)).toNat : Nat) < (ρ.z.rl 2).length - (ρ.i .i64 281969).toNat) from ?_)
  obtain ⟨o, hb⟩ := hi
  exact ⟨⟨over_skip o (by omega) rfl rfl (by assumption) (by omega), hb⟩, by omega⟩
theorem vceach8_9 : VC TTeach inveach mseach 8 teach8 weach8_9 := by
  intro ρ kn hi hp
  have hi : iveach8 ρ := hi
  unfold iveach8 at hi
  have hF : ρ.z.F = lnk.Φ := kn.F
  simp only [h_nil, h_cons, d_le, d_eq, d_not, d_var, d_lit, d_cel, d_leq, d_fn, d_and, d_iff, IE.den, LE.den, AL.den, lenV, true_and, and_true, pceach8_4, pceach8_2, pceach8_1, pceach8_0, hF, pb1, pb2, pb4, pb5, pb6] at hp
  obtain ⟨p1, p2, p3, p4, p5, p6, p7, p8, p9, p10, p11, p12, p13, p14, p15, p16, p17, p18, p19⟩ := hp
  refine (show (Over (ρ.z.rl 2) (firstPair (ρ.z.rl 1) (ρ.i .i64 2)) (ρ.z.rl 1) (ρ.i .i64 2) [] 0 ((ρ.i .i64 281969) + (1 : Int)) ∧ (ρ.z.rl 2).length ≤ 40) ∧ (((ρ.z.rl 2).length - ((ρ.i .i64 281969) + (1 : Int)).toNat : Nat) < (ρ.z.rl 2).length - (ρ.i .i64 281969).toNat) from ?_)
  obtain ⟨o, hb⟩ := hi
  exact ⟨⟨over_skip o (by omega) rfl rfl (by assumption) (by omega), hb⟩, by omega⟩
theorem vcseach0 : ∀ v ∈ vweach 0, VC TTeach inveach mseach 0 (startF 13 cEach.pat (.lit true :: cEach.pre)) v := all_cons vceach0_0 (all_cons (fun _ _ _ _ => all_nil) (all_cons (fun _ _ _ _ => all_nil) (all_cons (fun _ _ _ _ => all_nil) (all_nil))))
theorem okeach0 : cfgOk (startF 13 cEach.pat (.lit true :: cEach.pre)) = true := by kernel_rfl
theorem vcseach1 : ∀ v ∈ vweach 1, VC TTeach inveach mseach 1 teach1 v := all_cons (fun _ _ _ _ => all_nil) (all_cons (fun _ _ _ _ => all_nil) (all_cons vceach1_2 (all_cons vceach1_3 (all_cons vceach1_4 (all_cons vceach1_5 (all_cons (fun _ _ _ _ => all_nil) (all_cons (fun _ _ _ _ => all_nil) (all_cons (fun _ _ _ _ => all_nil) (all_cons (fun _ _ _ _ => all_nil) (all_cons vceach1_10 (all_cons (fun _ _ _ _ => all_nil) (all_cons (fun _ _ _ _ => all_nil) (all_cons (fun _ _ _ _ => all_nil) (all_cons (fun _ _ _ _ => all_nil) (all_cons (fun _ _ _ _ => all_nil) (all_cons (fun _ _ _ _ => all_nil) (all_cons (fun _ _ _ _ => all_nil) (all_cons (fun _ _ _ _ => all_nil) (all_cons (fun _ _ _ _ => all_nil) (all_cons (fun _ _ _ _ => all_nil) (all_cons (fun _ _ _ _ => all_nil) (all_cons (fun _ _ _ _ => all_nil) (all_cons (fun _ _ _ _ => all_nil) (all_cons (fun _ _ _ _ => all_nil) (all_cons (fun _ _ _ _ => all_nil) (all_cons (fun _ _ _ _ => all_nil) (all_cons (fun _ _ _ _ => all_nil) (all_cons (fun _ _ _ _ => all_nil) (all_cons (fun _ _ _ _ => all_nil) (all_cons (fun _ _ _ _ => all_nil) (all_cons (fun _ _ _ _ => all_nil) (all_cons (fun _ _ _ _ => all_nil) (all_cons (fun _ _ _ _ => all_nil) (all_cons (fun _ _ _ _ => all_nil) (all_cons (fun _ _ _ _ => all_nil) (all_cons (fun _ _ _ _ => all_nil) (all_cons (fun _ _ _ _ => all_nil) (all_cons (fun _ _ _ _ => all_nil) (all_cons (fun _ _ _ _ => all_nil) (all_cons (fun _ _ _ _ => all_nil) (all_cons (fun _ _ _ _ => all_nil) (all_cons (fun _ _ _ _ => all_nil) (all_cons (fun _ _ _ _ => all_nil) (all_cons (fun _ _ _ _ => all_nil) (all_nil)))))))))))))))))))))))))))))))))))))))))))))
theorem okeach1 : cfgOk teach1 = true := by kernel_rfl
theorem vcseach2 : ∀ v ∈ vweach 2, VC TTeach inveach mseach 2 teach2 v := all_cons vceach2_0 (all_cons vceach2_1 (all_cons vceach2_2 (all_cons vceach2_3 (all_cons vceach2_4 (all_cons vceach2_5 (all_nil))))))
theorem okeach2 : cfgOk teach2 = true := by kernel_rfl
theorem vcseach3 : ∀ v ∈ vweach 3, VC TTeach inveach mseach 3 teach3 v := all_cons vceach3_0 (all_cons vceach3_1 (all_cons vceach3_2 (all_cons vceach3_3 (all_cons vceach3_4 (all_cons vceach3_5 (all_nil))))))
theorem okeach3 : cfgOk teach3 = true := by kernel_rfl
theorem vcseach4 : ∀ v ∈ vweach 4, VC TTeach inveach mseach 4 teach4 v := all_cons vceach4_0 (all_cons vceach4_1 (all_cons vceach4_2 (all_cons vcgeach4_0.1 (all_cons vceach4_4 (all_cons vcgeach4_0.2.1 (all_cons vcgeach4_0.2.2.1 (all_cons vcgeach4_0.2.2.2 (all_cons vceach4_8 (all_cons vceach4_9 (all_cons vceach4_10 (all_cons vceach4_11 (all_cons vceach4_12 (all_nil)))))))))))))
theorem okeach4 : cfgOk teach4 = true := by kernel_rfl
theorem vcseach5 : ∀ v ∈ vweach 5, VC TTeach inveach mseach 5 teach5 v := all_cons vceach5_0 (all_cons vcgeach5_0.1 (all_cons vceach5_2 (all_cons vcgeach5_0.2.1 (all_cons vceach5_4 (all_cons vcgeach5_0.2.2.1 (all_cons vceach5_6 (all_cons vcgeach5_0.2.2.2.1 (all_cons vceach5_8 (all_cons vcgeach5_0.2.2.2.2.1 (all_cons vceach5_10 (all_cons vceach5_11 (all_cons vcgeach5_0.2.2.2.2.2.1 (all_cons vceach5_13 (all_cons vceach5_14 (all_cons vcgeach5_0.2.2.2.2.2.2.1 (all_cons vceach5_16 (all_cons vcgeach5_0.2.2.2.2.2.2.2.1 (all_cons vceach5_18 (all_cons vcgeach5_0.2.2.2.2.2.2.2.2.1 (all_cons vceach5_20 (all_cons vceach5_21 (all_cons vcgeach5_0.2.2.2.2.2.2.2.2.2.1 (all_cons vceach5_23 (all_cons vceach5_24 (all_cons vcgeach5_0.2.2.2.2.2.2.2.2.2.2.1 (all_cons vceach5_26 (all_cons vcgeach5_0.2.2.2.2.2.2.2.2.2.2.2.1 (all_cons vcgeach5_0.2.2.2.2.2.2.2.2.2.2.2.2.1 (all_cons vceach5_29 (all_cons vceach5_30 (all_cons vcgeach5_0.2.2.2.2.2.2.2.2.2.2.2.2.2.1 (all_cons vceach5_32 (all_cons vceach5_33 (all_cons vcgeach5_0.2.2.2.2.2.2.2.2.2.2.2.2.2.2.1 (all_cons vceach5_35 (all_cons vcgeach5_0.2.2.2.2.2.2.2.2.2.2.2.2.2.2.2.1 (all_cons vcgeach5_0.2.2.2.2.2.2.2.2.2.2.2.2.2.2.2.2.1 (all_cons vceach5_38 (all_cons vceach5_39 (all_cons vcgeach5_0.2.2.2.2.2.2.2.2.2.2.2.2.2.2.2.2.2.1 (all_cons vceach5_41 (all_cons vceach5_42 (all_cons vcgeach5_0.2.2.2.2.2.2.2.2.2.2.2.2.2.2.2.2.2.2.1 (all_cons vceach5_44 (all_cons vcgeach5_0.2.2.2.2.2.2.2.2.2.2.2.2.2.2.2.2.2.2.2.1 (all_cons vceach5_46 (all_cons vceach5_47 (all_cons vceach5_48 (all_cons vceach5_49 (all_cons vcgeach5_0.2.2.2.2.2.2.2.2.2.2.2.2.2.2.2.2.2.2.2.2.1 (all_cons vceach5_51 (all_cons vcgeach5_0.2.2.2.2.2.2.2.2.2.2.2.2.2.2.2.2.2.2.2.2.2.1 (all_cons vceach5_53 (all_cons vcgeach5_0.2.2.2.2.2.2.2.2.2.2.2.2.2.2.2.2.2.2.2.2.2.2.1 (all_cons vceach5_55 (all_cons vcgeach5_0.2.2.2.2.2.2.2.2.2.2.2.2.2.2.2.2.2.2.2.2.2.2.2 (all_nil)))))))))))))))))))))))))))))))))))))))))))))))))))))))))
theorem okeach5 : cfgOk teach5 = true := by kernel_rfl
theorem vcseach6 : ∀ v ∈ vweach 6, VC TTeach inveach mseach 6 teach6 v := all_cons vceach6_0 (all_nil)
theorem okeach6 : cfgOk teach6 = true := by kernel_rfl
theorem vcseach7 : ∀ v ∈ vweach 7, VC TTeach inveach mseach 7 teach7 v := all_cons (fun _ _ _ _ => all_nil) (all_cons vcgeach7_0.1 (all_cons vceach7_2 (all_cons vcgeach7_0.2.1 (all_cons vceach7_4 (all_cons vcgeach7_0.2.2.1 (all_cons vceach7_6 (all_cons vcgeach7_0.2.2.2.1 (all_cons vceach7_8 (all_cons vcgeach7_0.2.2.2.2.1 (all_cons vcgeach7_0.2.2.2.2.2.1 (all_cons vceach7_11 (all_cons vcgeach7_0.2.2.2.2.2.2.1 (all_cons vcgeach7_0.2.2.2.2.2.2.2.1 (all_cons vceach7_14 (all_cons vcgeach7_0.2.2.2.2.2.2.2.2.1 (all_cons vceach7_16 (all_cons vceach7_17 (all_cons vceach7_18 (all_cons (fun _ _ _ _ => all_nil) (all_cons vcgeach7_0.2.2.2.2.2.2.2.2.2 (all_nil)))))))))))))))))))))
theorem okeach7 : cfgOk teach7 = true := by kernel_rfl
theorem vcseach8 : ∀ v ∈ vweach 8, VC TTeach inveach mseach 8 teach8 v := all_cons (fun _ _ _ _ => all_nil) (all_cons vceach8_1 (all_cons vcgeach8_0.1 (all_cons vceach8_3 (all_cons vcgeach8_0.2.1 (all_cons vcgeach8_0.2.2.1 (all_cons vcgeach8_0.2.2.2 (all_cons vceach8_7 (all_cons vceach8_8 (all_cons vceach8_9 (all_cons (fun _ _ _ _ => all_nil) (all_nil)))))))))))
theorem okeach8 : cfgOk teach8 = true := by kernel_rfl
theorem lneach0 : ∀ ρ, Known TTeach (startF 13 cEach.pat (.lit true :: cEach.pre)) ρ → inveach 0 ρ.lt → Holds ρ (leanOf (Cfg.pc (startF 13 cEach.pat (.lit true :: cEach.pre)))) := by
  intro ρ _ _
  exact (show Holds ρ [] from fun p hp => by cases hp)
theorem lneach1 : ∀ ρ, Known TTeach teach1 ρ → inveach 1 ρ.lt → Holds ρ (leanOf (Cfg.pc teach1)) := by
  intro ρ _ _
  exact (show Holds ρ [] from fun p hp => by cases hp)
theorem lneach2 : ∀ ρ, Known TTeach teach2 ρ → inveach 2 ρ.lt → Holds ρ (leanOf (Cfg.pc teach2)) := by
  intro ρ _ _
  exact (show Holds ρ [] from fun p hp => by cases hp)
theorem lneach3 : ∀ ρ, Known TTeach teach3 ρ → inveach 3 ρ.lt → Holds ρ (leanOf (Cfg.pc teach3)) := by
  intro ρ kn hi
  refine (show Holds ρ [.le (.len (.var 1002)) (.lit 40)] from ?_)
  have hi : Gone (ρ.z.rl 2) (firstPair (ρ.z.rl 1) (ρ.i .i64 2)) (ρ.l 1004) (ρ.i .i64 2) (ρ.l 1002) ((ρ.i .i64 1000) + 1) ∧ (ρ.z.rl 2).length ≤ 40 := hi
  have hF : ρ.z.F = lnk.Φ := kn.F
  simp only [h_nil, h_cons, d_le, d_eq, d_not, d_var, d_lit, d_cel, d_leq, d_fn, d_and, d_iff, IE.den, LE.den, AL.den, lenV, true_and, and_true, hF, pb1, pb2, pb4, pb5, pb6]
  obtain ⟨g, hb⟩ := hi
  have h4 : (ρ.l 1002).length ≤ (ρ.i .i64 1000 + 1).toNat := by rw [g.w]; exact taken_len _ _ _
  have h5 := g.c1
  omega
theorem lneach4 : ∀ ρ, Known TTeach teach4 ρ → inveach 4 ρ.lt → Holds ρ (leanOf (Cfg.pc teach4)) := by
  intro ρ _ _
  exact (show Holds ρ [] from fun p hp => by cases hp)
theorem lneach5 : ∀ ρ, Known TTeach teach5 ρ → inveach 5 ρ.lt → Holds ρ (leanOf (Cfg.pc teach5)) := by
  intro ρ kn hi
  refine (show Holds ρ [.le (.var .i64 11972) (.lit 40)] from ?_)
  have hi : Over (ρ.z.rl 2) (firstPair (ρ.z.rl 1) (ρ.i .i64 2)) (ρ.l 11974) (ρ.i .i64 2) (ρ.l 1002) (ρ.i .i64 11972) (ρ.i .i64 11970) ∧ ((ρ.i .i64 11972) = 0 ∨ (ρ.i .i64 11972) < (ρ.i .i64 3)) ∧ (ρ.z.rl 2).length ≤ 40 := hi
  have hF : ρ.z.F = lnk.Φ := kn.F
  simp only [h_nil, h_cons, d_le, d_eq, d_not, d_var, d_lit, d_cel, d_leq, d_fn, d_and, d_iff, IE.den, LE.den, AL.den, lenV, true_and, and_true, hF, pb1, pb2, pb4, pb5, pb6]
  obtain ⟨o, h2, h3⟩ := hi
  have h4 := o.n
  have h5 := taken_len (ρ.z.rl 2) (firstPair (ρ.z.rl 1) (ρ.i .i64 2)) (ρ.i .i64 11970).toNat
  have h6 := o.g.c1
  omega
theorem lneach6 : ∀ ρ, Known TTeach teach6 ρ → inveach 6 ρ.lt → Holds ρ (leanOf (Cfg.pc teach6)) := by
  intro ρ _ _
  exact (show Holds ρ [] from fun p hp => by cases hp)
theorem lneach7 : ∀ ρ, Known TTeach teach7 ρ → inveach 7 ρ.lt → Holds ρ (leanOf (Cfg.pc teach7)) := by
  intro ρ kn hi
  refine (show Holds ρ [.le (.var .i64 11972) (.lit 40)] from ?_)
  have hi : Over (ρ.z.rl 2) (firstPair (ρ.z.rl 1) (ρ.i .i64 2)) (ρ.l 11974) (ρ.i .i64 2) (ρ.l 1002) (ρ.i .i64 11972) (ρ.i .i64 11970) ∧ (ρ.z.rl 2).length ≤ 40 := hi
  have hF : ρ.z.F = lnk.Φ := kn.F
  simp only [h_nil, h_cons, d_le, d_eq, d_not, d_var, d_lit, d_cel, d_leq, d_fn, d_and, d_iff, IE.den, LE.den, AL.den, lenV, true_and, and_true, hF, pb1, pb2, pb4, pb5, pb6]
  obtain ⟨o, h3⟩ := hi
  have h4 := o.n
  have h5 := taken_len (ρ.z.rl 2) (firstPair (ρ.z.rl 1) (ρ.i .i64 2)) (ρ.i .i64 11970).toNat
  have h6 := o.g.c1
  omega
theorem lneach8 : ∀ ρ, Known TTeach teach8 ρ → inveach 8 ρ.lt → Holds ρ (leanOf (Cfg.pc teach8)) := by
  intro ρ _ _
  exact (show Holds ρ [] from fun p hp => by cases hp)
theorem told_each : Sx.Told lnk.Φ cEach := by
  refine told_of (cs := [cWorks, cStamp, cRight, cStampR, cRRight, cRTakeA, cRTakeB, cRTakeC, cRTakeD]) (all_cons told_works (all_cons told_stamp (all_cons told_right (all_cons told_stampR (all_cons told_rright (all_cons told_rtakeA (all_cons told_rtakeB (all_cons told_rtakeC (all_cons told_rtakeD (all_nil)))))))))) (sel := seleach) 6000 tmeach inveach mseach vweach 0 (pc0 := (.lit true :: cEach.pre)) (by kernel_rfl) (by kernel_rfl) (by kernel_rfl) (post_nil rfl) ?_ ?_ ?_ rfl (fun ρ _ h => h.cons (p := .lit true) (by simp only [BE.den])) (fun _ _ _ _ => trivial) ?_
  · intro k C h
    have := lk_mem h
    simp only [tmeach, List.mem_cons, Prod.mk.injEq, List.not_mem_nil, or_false] at this
    rcases this with ⟨rfl, rfl⟩ | ⟨rfl, rfl⟩ | ⟨rfl, rfl⟩ | ⟨rfl, rfl⟩ | ⟨rfl, rfl⟩ | ⟨rfl, rfl⟩ | ⟨rfl, rfl⟩ | ⟨rfl, rfl⟩ | ⟨rfl, rfl⟩
    · exact okeach0
    · exact okeach1
    · exact okeach2
    · exact okeach3
    · exact okeach4
    · exact okeach5
    · exact okeach6
    · exact okeach7
    · exact okeach8
  · intro k C h
    have := lk_mem h
    simp only [tmeach, List.mem_cons, Prod.mk.injEq, List.not_mem_nil, or_false] at this
    rcases this with ⟨rfl, rfl⟩ | ⟨rfl, rfl⟩ | ⟨rfl, rfl⟩ | ⟨rfl, rfl⟩ | ⟨rfl, rfl⟩ | ⟨rfl, rfl⟩ | ⟨rfl, rfl⟩ | ⟨rfl, rfl⟩ | ⟨rfl, rfl⟩
    · exact sgeach0
    · exact sgeach1
    · exact sgeach2
    · exact sgeach3
    · exact sgeach4
    · exact sgeach5
    · exact sgeach6
    · exact sgeach7
    · exact sgeach8
  · intro k C h
    have := lk_mem h
    simp only [tmeach, List.mem_cons, Prod.mk.injEq, List.not_mem_nil, or_false] at this
    rcases this with ⟨rfl, rfl⟩ | ⟨rfl, rfl⟩ | ⟨rfl, rfl⟩ | ⟨rfl, rfl⟩ | ⟨rfl, rfl⟩ | ⟨rfl, rfl⟩ | ⟨rfl, rfl⟩ | ⟨rfl, rfl⟩ | ⟨rfl, rfl⟩
    · exact vcseach0
    · exact vcseach1
    · exact vcseach2
    · exact vcseach3
    · exact vcseach4
    · exact vcseach5
    · exact vcseach6
    · exact vcseach7
    · exact vcseach8
  · intro k C h
    have := lk_mem h
    simp only [tmeach, List.mem_cons, Prod.mk.injEq, List.not_mem_nil, or_false] at this
    rcases this with ⟨rfl, rfl⟩ | ⟨rfl, rfl⟩ | ⟨rfl, rfl⟩ | ⟨rfl, rfl⟩ | ⟨rfl, rfl⟩ | ⟨rfl, rfl⟩ | ⟨rfl, rfl⟩ | ⟨rfl, rfl⟩ | ⟨rfl, rfl⟩
    · exact lneach0
    · exact lneach1
    · exact lneach2
    · exact lneach3
    · exact lneach4
    · exact lneach5
    · exact lneach6
    · exact lneach7
    · exact lneach8
end Go.Proofs.Ytjgkaimgocnkmaa.lnk
