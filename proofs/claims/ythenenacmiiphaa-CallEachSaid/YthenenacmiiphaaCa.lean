/- Layer call: contracts. No condition. -/
import Derived.Test.YthenenacmiiphaaQh
set_option linter.unusedVariables false
set_option linter.unusedSimpArgs false
set_option linter.deprecated false
namespace Go.Proofs.Ythenenacmiiphaa.oct
open Go Go.Proofs.Ythenenacmiiphaa.Sx
noncomputable section
def shp : SV := .agg [iv 1, iv 2, iv 3]
def askV : SV := .agg [iv 4, iv 5, iv 6, iv 7, iv 8, iv 9, iv 10, iv 11]
def ansV : SV := .agg [iv 4, iv 5, iv 6, iv 7, iv 8]
def aI (n : Nat) (r : AL) : AL := .int .i64 (xv n) r
def shE : BE := .fn 10 (aI 1 (aI 2 (aI 3 .nil)))
def okE : BE := .fn 11 (aI 1 (aI 2 (aI 3 (aI 4 (aI 5 (aI 6 (aI 7 (aI 8 (aI 9 (aI 10 (aI 11 .nil)))))))))))
def okA : BE := .fn 12 (aI 1 (aI 2 (aI 3 (aI 4 (aI 5 (aI 6 (aI 7 .nil)))))))
def askE : LE := .fn 7 (aI 4 (aI 5 (aI 6 (aI 7 (aI 8 (aI 9 (aI 10 (aI 11 .nil))))))))
def ansE : LE := .fn 9 (aI 4 (aI 5 (aI 6 (aI 7 (aI 8 .nil)))))
def rowA (e : LE) : SObj := .rowl e (.len e) kB 5 1 1
def resA (e : LE) : SV := .sll 0 1 1 (.lit 0) (.len e) none
def nilS : SV := .const (.slice none 0 0)
def i0 (n : Int) : SV := .int .i64 (.lit n)
def cShp : Ctr := ⟨86, [shp], [], [shE], i0 0, [], 0, []⟩
def cShpN : Ctr := ⟨86, [shp], [], [.not shE], i0 2, [], 0, []⟩
def cRShp : Ctr := ⟨22, [shp], [], [], .bool shE, [], 0, []⟩
def cChk : Ctr := ⟨35, [shp, askV], [], [okE], i0 0, [], 0, []⟩
def cChkN : Ctr := ⟨35, [shp, askV], [], [.not okE], i0 2, [], 0, []⟩
def cRRight : Ctr := ⟨36, [shp, askV], [], [], .bool okE, [], 0, []⟩
def postA (e : LE) : List BE := [.le (.lit 1) (.len e), .le (.len e) (.lit 50)]
def cBytes : Ctr := ⟨32, [shp, askV], [], [okE], .tup [resA askE, i0 0], [(0, rowA askE)], 2, postA askE⟩
def cBytesN : Ctr := ⟨32, [shp, askV], [], [.not okE], .tup [nilS, i0 2], [], 0, []⟩
def cRBytes : Ctr := ⟨33, [shp, askV], [], [okE], .tup [resA askE, i0 0], [(0, rowA askE)], 2, postA askE⟩
def cRBytesN : Ctr := ⟨33, [shp, askV], [], [.not okE], .tup [nilS, i0 2], [], 0, []⟩
def cRgt : Ctr := ⟨43, [shp, ansV], [], [okA], i0 0, [], 0, []⟩
def cRgtN : Ctr := ⟨43, [shp, ansV], [], [.not okA], i0 2, [], 0, []⟩
def cRAns : Ctr := ⟨44, [shp, ansV], [], [], .bool okA, [], 0, []⟩
def cTold : Ctr := ⟨41, [shp, ansV], [], [okA], .tup [resA ansE, i0 0], [(0, rowA ansE)], 2, postA ansE⟩
def cToldN : Ctr := ⟨41, [shp, ansV], [], [.not okA], .tup [nilS, i0 2], [], 0, []⟩
def cRTold : Ctr := ⟨42, [shp, ansV], [], [okA], .tup [resA ansE, i0 0], [(0, rowA ansE)], 2, postA ansE⟩
def cRToldN : Ctr := ⟨42, [shp, ansV], [], [.not okA], .tup [nilS, i0 2], [], 0, []⟩
end
theorem wrap_1 {x : Int} (h : 1 ≤ x ∧ x ≤ 64) : IntKind.wrap .i64 (x - 1) = x - 1 := wrap_in .i64 _ (by show (-9223372036854775808 : Int) ≤ _; omega) (by show _ ≤ (9223372036854775807 : Int); omega)
theorem shp_b {n l s : Int} (h : shpR n l s = true) : (1 ≤ n ∧ n ≤ 64) ∧ (1 ≤ l ∧ l ≤ 8) ∧ (1 ≤ s ∧ s ≤ 4) := by
 simp only [shpR, decide_eq_true_eq] at h
 omega
theorem ask_b {n l s k lo m p t sl u b : Int} (h : askR n l s k lo m p t sl u b = true) : shpR n l s = true ∧ 1 ≤ k ∧ k ≤ 7 ∧ 0 ≤ lo ∧ lo < l ∧
 (k ≤ 2 → 1 ≤ m ∧ m ≤ 5 ∧ 0 ≤ p ∧ p ≤ 3 ∧ 0 ≤ t ∧ t ≤ 1099511627776 ∧ (k = 2 → t = 0) ∧ sl = 0 ∧ u = 0 ∧ b = 0) ∧
 (3 ≤ k → m = 0 ∧ p = 0 ∧ t = 0 ∧ 0 ≤ sl ∧ sl < s ∧ 1 ≤ u ∧ u ≤ 1099511627776 ∧ (k = 7 → b ≠ 0) ∧ (k ≠ 7 → b = 0)) := by
 simpa only [askR, Bool.and_eq_true, decide_eq_true_eq] using h
theorem ask_n {n l s k lo m p t sl u b : Int} (h : ¬ askR n l s k lo m p t sl u b = true) (h0 : shpR n l s = true) : ¬ (1 ≤ k ∧ k ≤ 7 ∧ 0 ≤ lo ∧ lo < l ∧
 (k ≤ 2 → 1 ≤ m ∧ m ≤ 5 ∧ 0 ≤ p ∧ p ≤ 3 ∧ 0 ≤ t ∧ t ≤ 1099511627776 ∧ (k = 2 → t = 0) ∧ sl = 0 ∧ u = 0 ∧ b = 0) ∧
 (3 ≤ k → m = 0 ∧ p = 0 ∧ t = 0 ∧ 0 ≤ sl ∧ sl < s ∧ 1 ≤ u ∧ u ≤ 1099511627776 ∧ (k = 7 → b ≠ 0) ∧ (k ≠ 7 → b = 0))) := by
 simp only [askR, Bool.and_eq_true, decide_eq_true_eq, h0, true_and] at h
 exact h
theorem tw_rng {n : Int} (h : -9223372036854775808 ≤ n ∧ n ≤ 9223372036854775807) : clampK .u64 (twiceN n) = twiceN n := u64_in (by unfold twiceN; split <;> omega)
theorem askL_1 {k lo m p t sl u b : Int} (h : k = 1) : askL k lo m p t sl u b = numL (clampK .u64 k) ++ numL (clampK .u64 lo) ++ (numL (clampK .u64 m) ++ numL (clampK .u64 p) ++ numL (clampK .u64 t)) := by
 unfold askL; rw [if_pos h]; rfl
theorem askL_2 {k lo m p t sl u b : Int} (h : k = 2) : askL k lo m p t sl u b = numL (clampK .u64 k) ++ numL (clampK .u64 lo) ++ (numL (clampK .u64 m) ++ numL (clampK .u64 p)) := by
 unfold askL; rw [if_neg (by omega), if_pos h]; rfl
theorem askL_7 {k lo m p t sl u b : Int} (h : k = 7) : askL k lo m p t sl u b = numL (clampK .u64 k) ++ numL (clampK .u64 lo) ++ (numL (clampK .u64 sl) ++ numL (clampK .u64 u) ++ numL (clampK .u64 (twiceN b))) := by
 unfold askL; rw [if_neg (by omega), if_neg (by omega), if_pos h]; rfl
theorem askL_3 {k lo m p t sl u b : Int} (h1 : k ≠ 1) (h2 : k ≠ 2) (h7 : k ≠ 7) : askL k lo m p t sl u b = numL (clampK .u64 k) ++ numL (clampK .u64 lo) ++ (numL (clampK .u64 sl) ++ numL (clampK .u64 u)) := by
 unfold askL; rw [if_neg h1, if_neg h2, if_neg h7]; rfl
theorem ask_len (k lo m p t sl u b : Int) : 1 ≤ (askL k lo m p t sl u b).length ∧ (askL k lo m p t sl u b).length ≤ 50 := by
 unfold askL numC
 have h := fun n => num_len (clampK .u64 n)
 have a1 := h k; have a2 := h lo; have a3 := h m; have a4 := h p; have a5 := h t; have a6 := h sl; have a7 := h u; have a8 := h (twiceN b)
 simp only [List.length_append]
 split
 ·simp only [List.length_append]; omega
 ·split
  ·simp only [List.length_append]; omega
  ·split
   ·simp only [List.length_append]; omega
   ·simp only [List.length_append]; omega
theorem ans_len (e sl u st v : Int) : 1 ≤ (ansL e sl u st v).length ∧ (ansL e sl u st v).length ≤ 50 := by
 unfold ansL numC
 have h := fun n => num_len (clampK .u64 n)
 have a1 := h e; have a2 := h sl; have a3 := h u; have a4 := h st; have a5 := h (twiceN v)
 simp only [List.length_append]; omega
theorem post_ask {ρ : Rho} (hF : ρ.z.F = Φ) : Holds ρ (postA askE) := by
 have := ask_len (ρ.i .i64 4) (ρ.i .i64 5) (ρ.i .i64 6) (ρ.i .i64 7) (ρ.i .i64 8) (ρ.i .i64 9) (ρ.i .i64 10) (ρ.i .i64 11)
 show Holds ρ [_, _]
 simp only [h_nil, h_cons, d_le, IE.den, LE.den, AL.den, askE, aI, xv, lenV, hF, and_true]
 show (1 : Int) ≤ ((askL _ _ _ _ _ _ _ _).length : Int) ∧ ((askL _ _ _ _ _ _ _ _).length : Int) ≤ 50
 omega
theorem post_ans {ρ : Rho} (hF : ρ.z.F = Φ) : Holds ρ (postA ansE) := by
 have := ans_len (ρ.i .i64 4) (ρ.i .i64 5) (ρ.i .i64 6) (ρ.i .i64 7) (ρ.i .i64 8)
 show Holds ρ [_, _]
 simp only [h_nil, h_cons, d_le, IE.den, LE.den, AL.den, ansE, aI, xv, lenV, hF, and_true]
 show (1 : Int) ≤ ((ansL _ _ _ _ _).length : Int) ∧ ((ansL _ _ _ _ _).length : Int) ≤ 50
 omega
theorem post_bytes : PostOk Φ cBytes := fun ρ hF _ => post_ask hF
theorem post_rbytes : PostOk Φ cRBytes := fun ρ hF _ => post_ask hF
theorem post_told : PostOk Φ cTold := fun ρ hF _ => post_ans hF
theorem post_rtold : PostOk Φ cRTold := fun ρ hF _ => post_ans hF
theorem ans_b {n l s e sl u st : Int} (h : ansR n l s e sl u st = true) : shpR n l s = true ∧ 0 ≤ e ∧ e ≤ 999 ∧ 0 ≤ st ∧ st ≤ 5 ∧ ((u = 0 ∧ sl = 0) ∨ (1 ≤ u ∧ u ≤ 1099511627776 ∧ 0 ≤ sl ∧ sl < s)) := by
 simpa only [ansR, Bool.and_eq_true, decide_eq_true_eq] using h
theorem ans_n {n l s e sl u st : Int} (h : ¬ ansR n l s e sl u st = true) (h0 : shpR n l s = true) : ¬ (0 ≤ e ∧ e ≤ 999 ∧ 0 ≤ st ∧ st ≤ 5 ∧ ((u = 0 ∧ sl = 0) ∨ (1 ≤ u ∧ u ≤ 1099511627776 ∧ 0 ≤ sl ∧ sl < s))) := by
 simp only [ansR, Bool.and_eq_true, decide_eq_true_eq, h0, true_and] at h
 exact h
theorem wu_in {x : Int} (h0 : 0 ≤ x) (h1 : x ≤ 9223372036854775807) : IntKind.wrap .u64 x = x := by rw [wrap64u]; omega
theorem ansL_e {e sl u st v : Int} : ansL e sl u st v = numL (clampK .u64 e) ++ numL (clampK .u64 sl) ++ numL (clampK .u64 u) ++ numL (clampK .u64 st) ++ numL (clampK .u64 (twiceN v)) := rfl
theorem pb10 (n l s : Int) : Φ.b 10 [.int .i64 n, .int .i64 l, .int .i64 s] = shpR n l s := rfl
theorem pb11 (n l s k lo m p t sl u b : Int) : Φ.b 11 [.int .i64 n, .int .i64 l, .int .i64 s, .int .i64 k, .int .i64 lo, .int .i64 m, .int .i64 p, .int .i64 t, .int .i64 sl, .int .i64 u, .int .i64 b] = askR n l s k lo m p t sl u b := rfl
theorem pb12 (n l s e sl u st : Int) : Φ.b 12 [.int .i64 n, .int .i64 l, .int .i64 s, .int .i64 e, .int .i64 sl, .int .i64 u, .int .i64 st] = ansR n l s e sl u st := rfl
theorem pl7 (k lo m p t sl u b : Int) : Φ.l 7 [.int .i64 k, .int .i64 lo, .int .i64 m, .int .i64 p, .int .i64 t, .int .i64 sl, .int .i64 u, .int .i64 b] = askL k lo m p t sl u b := rfl
theorem pl9 (e sl u st v : Int) : Φ.l 9 [.int .i64 e, .int .i64 sl, .int .i64 u, .int .i64 st, .int .i64 v] = ansL e sl u st v := rfl
end Go.Proofs.Ythenenacmiiphaa.oct
