/- Layer seal: what bytes open to, words. No condition. -/
import Derived.Test.YthbnjmmkjpoahaaQt
set_option linter.unusedVariables false
set_option linter.unusedSimpArgs false
set_option linter.deprecated false
namespace Go.Proofs.Ythbnjmmkjpoahaa.oct
open Go Go.Proofs.Ythbnjmmkjpoahaa.Sx
noncomputable section
def nilS : SV := .const (.slice none 0 0)
def opEE : IE := .fn .i64 21 rdA
def opNE : IE := .fn .i64 22 rdA
def opLE : LE := .fn 5 rdA
def rowOp : SObj := .rowl opLE (.len opLE) kB 5 1 1
def resOp : SV := .sll 0 1 1 (.lit 0) (.len opLE) none
def postOp : List BE := [.le (.lit 5) opNE, .le opNE (ln 0)]
def cOpenNil : Ctr := ⟨17, [nilS], [], [], .tup [nilS, .int .i64 (.lit 0), .int .i64 (.lit 110)], [], 0, []⟩
def cOpenNo : Ctr := ⟨17, [sl0 0], rB, [.not (.eq opEE (.lit 0))], .tup [nilS, .int .i64 (.lit 0), .int .i64 opEE], [], 0, []⟩
def cOpenZ : Ctr := ⟨17, [sl0 0], rB, [.eq opEE (.lit 0), .eq (.len opLE) (.lit 0)], .tup [nilS, .int .i64 opNE, .int .i64 (.lit 0)], [], 0, postOp⟩
def cOpenY : Ctr := ⟨17, [sl0 0], rB, [.eq opEE (.lit 0), .not (.eq (.len opLE) (.lit 0))], .tup [resOp, .int .i64 opNE, .int .i64 (.lit 0)], [(0, rowOp)], 2, postOp⟩
end
theorem pl4t {L : LV} (h : Typed byteK L) : Φ.l 5 [.lst L] = opL L := by rw [pl4, if_pos h]
theorem eqV_t {a b : LV} (h : a = b) : eqV a b = true := by unfold eqV; exact @decide_eq_true _ (Classical.propDecidable _) h
theorem eqV_f {a b : LV} (h : ¬ a = b) : eqV a b = false := by unfold eqV; exact @decide_eq_false _ (Classical.propDecidable _) h
theorem opE_a {L : LV} (h : rdE L ≠ 0) : opE L = rdE L := by unfold opE; rw [if_pos h]
theorem opE_b {L : LV} (h : rdE L = 0) (h2 : 65536 < rdV L) : opE L = 3 := by unfold opE; rw [if_neg (by omega), if_pos h2]
theorem opE_c {L : LV} (h : rdE L = 0) (h2 : rdV L ≤ 65536) (h3 : (L.length : Int) < rdN L + rdV L + 4) : opE L = 110 := by unfold opE; rw [if_neg (by omega), if_neg (by omega), if_pos h3]
theorem opE_d {L : LV} (h : rdE L = 0) (h2 : rdV L ≤ 65536) (h3 : rdN L + rdV L + 4 ≤ (L.length : Int)) (h4 : ¬ (L.drop (endN L)).take 4 = fourL (sumI (L.take (endN L)))) : opE L = 120 := by
  unfold opE sumOk; rw [if_neg (by omega), if_neg (by omega), if_neg (by omega), eqV_f h4]; rfl
theorem opE_e {L : LV} (h : rdE L = 0) (h2 : rdV L ≤ 65536) (h3 : rdN L + rdV L + 4 ≤ (L.length : Int)) (h4 : (L.drop (endN L)).take 4 = fourL (sumI (L.take (endN L)))) : opE L = 0 := by
  unfold opE sumOk; rw [if_neg (by omega), if_neg (by omega), if_neg (by omega), eqV_t h4]; rfl
theorem opN_e {L : LV} (h : opE L = 0) : opN L = rdN L + rdV L + 4 := by unfold opN; rw [if_pos h]
theorem opL_e {L : LV} (h : opE L = 0) : opL L = (L.drop (rdN L).toNat).take (rdV L).toNat := by unfold opL; rw [if_pos h]
/-- What is known where a frame is opened. -/
theorem op_ok {L : LV} (h : opE L = 0) : rdE L = 0 ∧ rdV L ≤ 65536 ∧ rdN L + rdV L + 4 ≤ (L.length : Int) ∧ (L.drop (endN L)).take 4 = fourL (sumI (L.take (endN L))) := by
  by_cases h1 : rdE L = 0
  · by_cases h2 : rdV L ≤ 65536
    · by_cases h3 : rdN L + rdV L + 4 ≤ (L.length : Int)
      · by_cases h4 : (L.drop (endN L)).take 4 = fourL (sumI (L.take (endN L)))
        · exact ⟨h1, h2, h3, h4⟩
        · rw [opE_d h1 h2 h3 h4] at h; cases h
      · rw [opE_c h1 h2 (by omega)] at h; cases h
    · rw [opE_b h1 (by omega)] at h; cases h
  · rw [opE_a h1] at h; exact absurd h h1
end Go.Proofs.Ythbnjmmkjpoahaa.oct
