/- Layer octet: a list's bytes. No condition. -/
import Derived.Test.YtjgkaimgocnkmaaRg
import Derived.Test.YtjgkaimgocnkmaaQl
import Derived.Test.YtjgkaimgocnkmaaRs
set_option linter.unusedVariables false
set_option linter.unusedSimpArgs false
set_option linter.deprecated false
namespace Go.Proofs.Ytjgkaimgocnkmaa.oct
open Go Go.Proofs.Ytjgkaimgocnkmaa.Sx
noncomputable section
def rS : Roms := [(0, (1, kS))]
def lA : AL := .lst (.rom 0) .nil
def fewF : BE := .fn 2 lA
def catE : LE := .fn 5 lA
def rowC : SObj := .rowl catE (.len catE) kB 5 1 1
def postC : List BE := [.le (.lit 1) (.len catE), .le (.len catE) (.lit 4000)]
def preT3 : List BE := [.le (.len (.var 1)) (.lit 3000)]
def cRText3 : Ctr := ⟨29, [.lstr (.var 1)], [], preT3, .sll 0 1 1 (.lit 0) (.len txE) none, [(0, rowT)], 2, [.le (.len txE) (.lit 3002), .le (.lit 1) (.len txE)]⟩
def cFewT : Ctr := ⟨30, [sl0 0], rS, [fewF], .bool (.lit true), [], 0, [.le (ln 0) (.lit 200)]⟩
def cFewF : Ctr := ⟨30, [sl0 0], rS, [.not fewF], .bool (.lit false), [], 0, []⟩
def preC : List BE := [fewF, .le (ln 0) (.lit 200)]
def cList : Ctr := ⟨31, [sl0 0], rS, preC, .sll 0 1 1 (.lit 0) (.len catE) (some (.len catE)), [(0, rowC)], 2, postC⟩
def cRList : Ctr := ⟨32, [sl0 0], rS, preC, .sll 0 1 1 (.lit 0) (.len catE) none, [(0, rowC)], 2, postC⟩
def rSB : Roms := [(0, (1, kS)), (1, (1, kB))]
def cLists : Ctr := ⟨6, [sl0 0, sl0 1, iv 1], rSB, [], .bool (.lit true), [], 0, []⟩
end
theorem or_low2 {n : Int} (h : 0 ≤ n) (h2 : n < 256) : binI .or .u8 n 128 = 128 + n % 128 := by
  have := or_low h
  rwa [wrap_low h h2] at this
theorem tex_z {l : LV} {i : Int} (h : 0 ≤ i) : strV (celV l i 0) = texS l i.toNat := by rw [texS, Int.toNat_of_nonneg h]
theorem sum_le {l : LV} : ∀ {n k : Nat}, k ≤ n → sumT l k ≤ sumT l n
  | 0, k, h => by rw [show k = 0 by omega]; exact Nat.le_refl _
  | n + 1, k, h => by
    by_cases e : k = n + 1
    · rw [e]; exact Nat.le_refl _
    · have := sum_le (l := l) (show k ≤ n by omega)
      rw [sumT]; omega
theorem few_iff {l : LV} : (fewT l = true) ↔ (l.length ≤ 200 ∧ sumT l l.length ≤ 3000) := by unfold fewT; exact decide_eq_true_iff
theorem few_at {l : LV} {i : Nat} (h : fewT l = true) (hi : i < l.length) : (texS l i).length ≤ 3000 := by
  have h2 := (few_iff.1 h).2
  have := sum_le (l := l) (show i + 1 ≤ l.length by omega)
  rw [sumT] at this
  omega
/-- Those that are not there have no bytes. -/
theorem tex_none {l : LV} {i : Nat} (h : l.length ≤ i) : texS l i = [] := by
  have e : l.getD ((i : Nat) : Int).toNat [] = [] := by rw [List.getD_eq_getElem?_getD, Int.toNat_natCast, List.getElem?_eq_none h]; rfl
  show strV ((l.getD ((i : Nat) : Int).toNat []).getD 0 (.bool false)) = []
  rw [e]; rfl
theorem few_any {l : LV} (i : Nat) (h : fewT l = true) : (texS l i).length ≤ 3000 := by
  by_cases c : i < l.length
  · exact few_at h c
  · rw [tex_none (by omega)]; exact Nat.zero_le _
theorem num_one {n : Int} (h : n < 128) (h0 : 0 ≤ n) : numL (clampK .u64 n) = [[.int .u8 n]] := by
  rw [u64_in ⟨h0, by omega⟩, show numL n = rowB (numF 9 n) from rfl, numF_low h]; rfl
theorem num_two {n : Int} (h : 128 ≤ n) (h2 : n < 16384) : numL (clampK .u64 n) = [[.int .u8 (128 + n % 128)], [.int .u8 (n / 128)]] := by
  rw [u64_in ⟨by omega, by omega⟩, show numL n = rowB (numF 9 n) from rfl, numF_up (by omega), numF_low (by omega)]; rfl
theorem num_le2 {n : Int} (h0 : 0 ≤ n) (h : n < 16384) : 1 ≤ (numL (clampK .u64 n)).length ∧ (numL (clampK .u64 n)).length ≤ 2 := by
  by_cases c : n < 128
  · rw [num_one c h0]; exact ⟨Nat.le_refl _, by simp only [List.length_cons, List.length_nil]; omega⟩
  · rw [num_two (by omega) h]; exact ⟨by simp only [List.length_cons, List.length_nil]; omega, Nat.le_refl _⟩
theorem cat_len {l : LV} (h : fewT l = true) : ∀ k, k ≤ l.length → k + 1 ≤ (catB l k).length ∧ (catB l k).length ≤ 2 + 2 * k + sumT l k
  | 0, _ => by
    have := few_iff.1 h
    have := num_le2 (n := (l.length : Int)) (by omega) (by omega)
    rw [catB, sumT]; omega
  | k + 1, hk => by
    have ih := cat_len h k (by omega)
    have h3 := few_at h (show k < l.length by omega)
    have := num_le2 (n := ((texS l k).length : Int)) (by omega) (by omega)
    rw [catB, sumT, List.length_append, List.length_append]
    omega
theorem cat_4000 {l : LV} (h : fewT l = true) {k : Nat} (hk : k ≤ l.length) : (catB l k).length ≤ 4000 := by
  have h1 := cat_len h k hk
  have h2 := few_iff.1 h
  have h3 := sum_le (l := l) hk
  omega
theorem post_cat {ρ : Rho} (hF : ρ.z.F = Φ) (h : fewF.den ρ = true) : Holds ρ postC := by
  have h' : fewT (ρ.z.rl 0) = true := by
    have := h
    simp only [fewF, lA, d_fn, AL.den, LE.den, hF, pb2] at this
    exact this
  have h1 := cat_len h' _ (Nat.le_refl _)
  have h2 := cat_4000 h' (Nat.le_refl _)
  show Holds ρ [_, _]
  simp only [h_nil, h_cons, d_le, IE.den, LE.den, AL.den, catE, lA, lenV, hF, pl5, and_true]
  omega
theorem post_tx3 : PostOk Φ cRText3 := by
  intro ρ hF hp
  have h := hp (.le (.len (.var 1)) (.lit 3000)) (by simp [cRText3, preT3])
  simp only [d_le, IE.den, LE.den, lenV] at h
  have h2 := num_le2 (n := ((ρ.l 1).length : Int)) (by omega) (by omega)
  show Holds ρ [_, _]
  simp only [h_nil, h_cons, d_le, IE.den, LE.den, AL.den, txE, numE, lenV, hF, pl1, and_true, List.length_append]
  omega
theorem post_fewT : PostOk Φ cFewT := by
  intro ρ hF hp
  have h := hp fewF (by simp [cFewT])
  simp only [fewF, lA, d_fn, AL.den, LE.den, hF, pb2] at h
  have h1 := few_iff.1 h
  show Holds ρ [_]
  simp only [h_nil, h_cons, d_le, IE.den, LE.den, ln, lenV, and_true]
  omega
theorem post_list : PostOk Φ cList := fun ρ hF hp => post_cat hF (hp _ (by simp [cList, preC]))
theorem post_rlist : PostOk Φ cRList := fun ρ hF hp => post_cat hF (hp _ (by simp [cRList, preC]))
/- what is read back -/
theorem num_back {n : Int} (h0 : 0 ≤ n) (h : n < 16384) (S : LV) : rdV (numL (clampK .u64 n) ++ S) = n ∧ rdN (numL (clampK .u64 n) ++ S) = ((numL (clampK .u64 n)).length : Int) ∧ rdE (numL (clampK .u64 n) ++ S) = 0 := by
  rw [u64_in (n := n) ⟨h0, by omega⟩]
  exact read_back h0 (by omega) S
theorem text_back {s S : LV} (hs : Typed byteK s) (hS : Typed byteK S) (hl : s.length ≤ 3000) : txtE ((numL (clampK .u64 (s.length : Int)) ++ s) ++ S) = 0 ∧ txtN ((numL (clampK .u64 (s.length : Int)) ++ s) ++ S) = (((numL (clampK .u64 (s.length : Int)) ++ s).length : Nat) : Int) ∧ txtL ((numL (clampK .u64 (s.length : Int)) ++ s) ++ S) = s := by
  have e : (numL (clampK .u64 (s.length : Int)) ++ s) ++ S = numL (clampK .u64 (s.length : Int)) ++ (s ++ S) := List.append_assoc ..
  obtain ⟨a, b, c⟩ := num_back (n := (s.length : Int)) (by omega) (by omega) (s ++ S)
  have hT : Typed byteK (numL (clampK .u64 (s.length : Int)) ++ (s ++ S)) := app_typed (num_typed (clamp_rng .u64 _)) (app_typed hs hS)
  rw [e]
  have t := tx_ok hT c (by rw [a, b, List.length_append, List.length_append]; omega)
  refine ⟨t.2.2, by rw [t.2.1, a, b, List.length_append]; omega, ?_⟩
  rw [t.1, a, b, Int.toNat_natCast, Int.toNat_natCast, List.drop_left, List.take_left]
theorem cat_pre {l : LV} : ∀ {n k : Nat}, k ≤ n → ∃ Y, Typed byteK Y ∧ catB l n = catB l k ++ Y
  | 0, k, h => ⟨[], Typed.nil _, by rw [show k = 0 by omega, List.append_nil]⟩
  | n + 1, k, h => by
    by_cases e : k = n + 1
    · exact ⟨[], Typed.nil _, by rw [e, List.append_nil]⟩
    · obtain ⟨Y, hY, e2⟩ := cat_pre (l := l) (show k ≤ n by omega)
      exact ⟨Y ++ (numL (clampK .u64 ((texS l n).length : Int)) ++ texS l n), app_typed hY (app_typed (num_typed (clamp_rng .u64 _)) (strV_typed _)), by rw [catB, e2, List.append_assoc]⟩
theorem cat_rd {l S : LV} (h : fewT l = true) : rdV (catB l l.length ++ S) = (l.length : Int) ∧ rdE (catB l l.length ++ S) = 0 ∧ rdN (catB l l.length ++ S) = ((catB l 0).length : Int) := by
  obtain ⟨Y, hY, e⟩ := cat_pre (l := l) (Nat.zero_le l.length)
  have hf := few_iff.1 h
  rw [e, List.append_assoc]
  obtain ⟨a, b, c⟩ := num_back (n := (l.length : Int)) (by omega) (by omega) (Y ++ S)
  exact ⟨a, c, b⟩
theorem cat_pos {l S : LV} (h : fewT l = true) (hT : Typed kS l) (hS : Typed byteK S) : ∀ k, k ≤ l.length → posT (catB l l.length ++ S) k = (catB l k).length ∧ errT (catB l l.length ++ S) k = 0 ∧ txsT (catB l l.length ++ S) k = l.take k
  | 0, _ => by
    have h1 := (cat_rd (S := S) h).2.2
    exact ⟨by rw [posT, h1, Int.toNat_natCast], rfl, rfl⟩
  | k + 1, hk => by
    obtain ⟨p, e, t⟩ := cat_pos h hT hS k (by omega)
    obtain ⟨Y, hY, eY⟩ := cat_pre (l := l) (show k + 1 ≤ l.length from hk)
    have d : (catB l l.length ++ S).drop (catB l k).length = (numL (clampK .u64 ((texS l k).length : Int)) ++ texS l k) ++ (Y ++ S) := by
      rw [eY, catB]
      simp only [List.append_assoc]
      exact List.drop_left
    obtain ⟨t1, t2, t3⟩ := text_back (s := texS l k) (S := Y ++ S) (strV_typed _) (app_typed hY hS) (few_at h (by omega))
    refine ⟨?_, ?_, ?_⟩
    · rw [posT, p, d, t2, catB, List.length_append, Int.toNat_natCast, List.length_append, List.length_append]
    · rw [errT, if_pos e, p, d, t1]
    · rw [txsT, t, p, d, t3]
      obtain ⟨s, s1, s2⟩ := str_of hT (i := (k : Int)) (by omega) (by omega)
      rw [Int.toNat_natCast] at s1
      have e1 : l[k]? = some [.string s] := by
        rw [List.getElem?_eq_getElem (by omega)]
        rw [List.getD_eq_getElem?_getD, List.getElem?_eq_getElem (by omega)] at s1
        exact congrArg some s1
      rw [List.take_succ, e1]
      show l.take k ++ [[Value.string (byteL (texS l k))]] = l.take k ++ [[Value.string s]]
      rw [texS, s2, byteL_strV]
/-- A list is read back, whatever stands behind. -/
theorem list_back {l S : LV} {m : Int} (h : fewT l = true) (hT : Typed kS l) (hS : Typed byteK S) :
    (((l.length : Int) ≤ m ∨ l.length = 0) → lsE (catB l l.length ++ S) m = 0 ∧ lsN (catB l l.length ++ S) m = ((catB l l.length).length : Int) ∧ (1 ≤ l.length → lsB (catB l l.length ++ S) m = true ∧ lsL (catB l l.length ++ S) m = l)) ∧
    (¬ ((l.length : Int) ≤ m ∨ l.length = 0) → lsE (catB l l.length ++ S) m = 3 ∧ lsN (catB l l.length ++ S) m = 0) := by
  obtain ⟨a, b, c⟩ := cat_rd (S := S) h
  obtain ⟨p, e, t⟩ := cat_pos h hT hS l.length (Nat.le_refl _)
  constructor
  · intro hm
    have h1 : lsE (catB l l.length ++ S) m = 0 := by rw [lsE, if_pos b, if_pos (by rw [a]; omega), a, Int.toNat_natCast, e]
    refine ⟨h1, by rw [lsN, if_pos h1, a, Int.toNat_natCast, p], fun h2 => ?_⟩
    have hB : lsB (catB l l.length ++ S) m = true := lsB_t.2 ⟨h1, by rw [a]; omega⟩
    exact ⟨hB, by rw [lsL_t hB, a, Int.toNat_natCast, t, List.take_length]⟩
  · intro hm
    have h1 : lsE (catB l l.length ++ S) m = 3 := by rw [lsE, if_pos b, if_neg (by rw [a]; omega)]
    exact ⟨h1, lsN_no (by rw [h1]; decide)⟩
end Go.Proofs.Ytjgkaimgocnkmaa.oct
