/- Layer seal: laws, words. No condition. -/
import Derived.Test.YthbnjmmkjpoahaaQy
set_option linter.unusedVariables false
set_option linter.unusedSimpArgs false
set_option linter.deprecated false
namespace Go.Proofs.Ythbnjmmkjpoahaa.oct
open Go Go.Proofs.Ythbnjmmkjpoahaa.Sx
noncomputable section
def cOpens : Ctr := ⟨5, [sl0 0], rB, [.le (.lit 1) (ln 0)], .bool (.lit true), [], 0, []⟩
def cOpens0 : Ctr := ⟨5, [sl00], rB, [], .bool (.lit true), [], 0, []⟩
def rB2 : Roms := [(0, (1, kB)), (1, (1, kB))]
def cFrames (a b : List BE) (p q : SV) : Ctr := ⟨4, [p, q], rB2, a ++ b, .bool (.lit true), [], 0, []⟩
def cFr : Ctr := cFrames [.le (.lit 1) (ln 0)] [.le (.lit 1) (ln 1)] (sl0 0) (sl0 1)
def cFr0 : Ctr := cFrames [] [.le (.lit 1) (ln 1)] sl00 (sl0 1)
def cFr1 : Ctr := cFrames [.le (.lit 1) (ln 0)] [] (sl0 0) (.rom 1 (.lit 0) (.lit 0) none)
def cFr2 : Ctr := cFrames [] [] sl00 (.rom 1 (.lit 0) (.lit 0) none)
def cTurned : Ctr := ⟨8, [sl0 0, iv 1], rB, [.le (.lit 1) (ln 0)], .bool (.lit true), [], 0, []⟩
def cTurned0 : Ctr := ⟨8, [sl00, iv 1], rB, [], .bool (.lit true), [], 0, []⟩
end
theorem four_qs (M : LV) : ([[Value.int .u8 (IntKind.wrap .u8 (binI .quo .u32 (sumI M) 16777216))]] ++ ([[Value.int .u8 (IntKind.wrap .u8 (binI .quo .u32 (sumI M) 65536))]] ++ ([[Value.int .u8 (IntKind.wrap .u8 (binI .quo .u32 (sumI M) 256))]] ++ [[Value.int .u8 (IntKind.wrap .u8 (sumI M))]])) : LV) = fourL (sumI M) := four_q (sum_rng M).1 (sum_rng M).2
theorem op_cases (L : LV) : (rdE L ≠ 0 ∧ opE L = rdE L) ∨ (rdE L = 0 ∧ 65536 < rdV L ∧ opE L = 3) ∨ (rdE L = 0 ∧ rdV L ≤ 65536 ∧ (L.length : Int) < rdN L + rdV L + 4 ∧ opE L = 110) ∨
    (rdE L = 0 ∧ rdV L ≤ 65536 ∧ rdN L + rdV L + 4 ≤ (L.length : Int) ∧ ¬ fourL (sumI (L.take (rdN L + rdV L).toNat)) = (L.drop (rdN L + rdV L).toNat).take (4 : Int).toNat ∧ opE L = 120) ∨
    (rdE L = 0 ∧ rdV L ≤ 65536 ∧ rdN L + rdV L + 4 ≤ (L.length : Int) ∧ fourL (sumI (L.take (rdN L + rdV L).toNat)) = (L.drop (rdN L + rdV L).toNat).take (4 : Int).toNat ∧ opE L = 0 ∧ opN L = rdN L + rdV L + 4 ∧ opL L = (L.drop (rdN L).toNat).take (rdV L).toNat ∧ ((opL L).length : Int) = rdV L) := by
  by_cases h1 : rdE L = 0
  · by_cases h2 : rdV L ≤ 65536
    · by_cases h3 : rdN L + rdV L + 4 ≤ (L.length : Int)
      · by_cases h4 : fourL (sumI (L.take (rdN L + rdV L).toNat)) = (L.drop (rdN L + rdV L).toNat).take (4 : Int).toNat
        · have e := opE_e h1 h2 h3 h4.symm
          exact .inr (.inr (.inr (.inr ⟨h1, h2, h3, h4, e, opN_e e, opL_e e, opL_len e⟩)))
        · exact .inr (.inr (.inr (.inl ⟨h1, h2, h3, h4, opE_d h1 h2 h3 (fun h => h4 h.symm)⟩)))
      · exact .inr (.inr (.inl ⟨h1, h2, by omega, opE_c h1 h2 (by omega)⟩))
    · exact .inr (.inl ⟨h1, by omega, opE_b h1 (by omega)⟩)
  · exact .inl ⟨h1, opE_a h1⟩
end Go.Proofs.Ythbnjmmkjpoahaa.oct
