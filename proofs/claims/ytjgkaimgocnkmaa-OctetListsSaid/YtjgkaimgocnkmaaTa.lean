/- Layer octet: the law OctetTexts, its contracts. No condition. -/
import Derived.Test.YtjgkaimgocnkmaaQf
set_option linter.unusedVariables false
set_option linter.unusedSimpArgs false
set_option linter.deprecated false
namespace Go.Proofs.Ytjgkaimgocnkmaa.oct
open Go Go.Proofs.Ytjgkaimgocnkmaa.Sx
noncomputable section
def txE : LE := .cat (numE (.len (.var 1))) (.var 1)
def rowT : SObj := .rowl txE (.len txE) kB 5 1 1
def preT : List BE := [.le (.len (.var 1)) (.lit 2000)]
def cText : Ctr := ⟨28, [.lstr (.var 1)], [], preT, .sll 0 1 1 (.lit 0) (.len txE) (some (.len txE)), [(0, rowT)], 2, []⟩
def cRText : Ctr := ⟨29, [.lstr (.var 1)], [], preT, .sll 0 1 1 (.lit 0) (.len txE) none, [(0, rowT)], 2, []⟩
def cReadT : Ctr := ⟨26, [sl0 0], rB, [.le (.lit 1) (ln 0), .le (ln 0) (.lit 2000)], .tup [.lstr (.fn 3 rdA), .int .i64 (.fn .i64 8 rdA), .int .i64 (.fn .i64 9 rdA)], [], 0, []⟩
def cRReadT : Ctr := ⟨27, [sl0 0], rB, [.le (.lit 1) (ln 0), .le (ln 0) (.lit 2000)], .tup [.lstr (.fn 3 rdA), .int .i64 (.fn .i64 8 rdA), .int .i64 (.fn .i64 9 rdA)], [], 0, [.le (.lit 0) (.fn .i64 8 rdA), .le (.fn .i64 8 rdA) (ln 0)]⟩
def cTexts : Ctr := ⟨5, [sl0 0, .lstr (.var 1)], rB, [.le (.lit 1) (ln 0)], .bool (.lit true), [], 0, []⟩
def cTexts0 : Ctr := ⟨5, [sl00, .lstr (.var 1)], rB, [], .bool (.lit true), [], 0, []⟩
end
theorem rdE_cases (L : LV) : rdE L = 0 ∨ rdE L = 110 ∨ rdE L = 111 := by
  unfold rdE; split
  · exact .inl rfl
  · split
    · exact .inr (.inr rfl)
    · exact .inr (.inl rfl)
theorem rdE_in (L : LV) : clampK .i64 (rdE L) = rdE L := by
  rcases rdE_cases L with h | h | h <;> rw [h] <;> rfl
theorem i64_in {n : Int} (h0 : -9223372036854775808 ≤ n) (h1 : n ≤ 9223372036854775807) : clampK .i64 n = n := clamp_id ⟨h0, h1⟩
theorem rdV_in (L : LV) : clampK .u64 (rdV L) = rdV L := by
  unfold rdV; split
  · rename_i hk
    have hf : firstP (stopP L) (atR L) = atR L := first_none fun i hi => first_lt hi
    simp only [okR, Bool.and_eq_true, Bool.not_eq_true'] at hk
    exact u64_in ⟨(val_rng L _).1, val_top hf hk.2⟩
  · rfl
theorem rdN_in (L : LV) : clampK .i64 (rdN L) = rdN L := by
  have := rdN_rng L
  exact clampS (by omega) (by omega)
theorem rdV_rng (L : LV) : 0 ≤ rdV L := by
  unfold rdV; split
  · exact (val_rng L _).1
  · exact Int.le_refl _
theorem tx_no {L : LV} (h : ¬ rdE L = 0) : txtL L = [] ∧ txtN L = 0 ∧ txtE L = rdE L := by
  have n : ¬ txtB L := fun k => h k.1
  refine ⟨?_, ?_, ?_⟩
  · unfold txtL; split <;> first | rfl | exact if_neg n
  · rw [txtN, if_neg n]
  · rw [txtE, if_neg n, if_neg h]
theorem tx_long {L : LV} (h : rdE L = 0) (h2 : ¬ rdV L ≤ (L.length : Int) - rdN L) : txtL L = [] ∧ txtN L = 0 ∧ txtE L = 110 := by
  have n : ¬ txtB L := fun k => h2 k.2
  refine ⟨?_, ?_, ?_⟩
  · unfold txtL; split <;> first | rfl | exact if_neg n
  · rw [txtN, if_neg n]
  · rw [txtE, if_neg n, if_pos h]
theorem tx_ok {L : LV} (hT : Typed byteK L) (h : rdE L = 0) (h2 : rdV L ≤ (L.length : Int) - rdN L) : txtL L = (L.drop (rdN L).toNat).take (rdV L).toNat ∧ txtN L = rdN L + rdV L ∧ txtE L = 0 := by
  have n : txtB L := ⟨h, h2⟩
  refine ⟨?_, ?_, ?_⟩
  · rw [txtL, if_pos hT, if_pos n]
  · rw [txtN, if_pos n]
  · rw [txtE, if_pos n]
theorem txtN_rng (L : LV) : 0 ≤ txtN L ∧ txtN L ≤ (L.length : Int) := by
  have h1 := rdN_rng L
  have h2 := rdV_rng L
  by_cases n : txtB L
  · have := n.2
    rw [txtN, if_pos n]; omega
  · rw [txtN, if_neg n]; omega
end Go.Proofs.Ytjgkaimgocnkmaa.oct
