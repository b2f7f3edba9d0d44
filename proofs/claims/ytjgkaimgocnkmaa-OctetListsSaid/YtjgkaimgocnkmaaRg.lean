/- Layer octet: lists of texts, longer ones. No condition. -/
import Derived.Test.YtjgkaimgocnkmaaRe
set_option linter.unusedVariables false
set_option linter.unusedSimpArgs false
set_option linter.deprecated false
namespace Go.Proofs.Ytjgkaimgocnkmaa.oct
open Go Go.Proofs.Ytjgkaimgocnkmaa.Sx
noncomputable section
def preL2 : List BE := [.le (.lit 1) (ln 0), .le (ln 0) (.lit 10000)]
def cListR2 : Ctr := ⟨33, [sl0 0, iv 1], rB, lsBE :: preL2, resSR, [(0, rowS)], 2, [.le (.lit 1) (.len lsLE), .le (.len lsLE) (.lit 10000)]⟩
def cListN2 : Ctr := ⟨33, [sl0 0, iv 1], rB, .not lsBE :: preL2, resSN, [], 0, []⟩
end
theorem post_ls2 {R : LV} {m : Int} (hB : lsB R m = true) (hl : (R.length : Int) ≤ 10000) : (1 : Int) ≤ (((lsL R m).length : Nat) : Int) ∧ (((lsL R m).length : Nat) : Int) ≤ 10000 := by
  obtain ⟨h1, h2⟩ := lsB_t.1 hB
  rw [lsL_t hB, txs_len]
  refine ⟨by omega, ?_⟩
  have hr : rdE R = 0 := by
    by_cases c : rdE R = 0
    · exact c
    · rw [ls_no c] at h1; exact h1
  have he : errT R (rdV R).toNat = 0 := by
    rw [lsE, if_pos hr] at h1
    split at h1
    · exact h1
    · exact absurd h1 (by decide)
  have := tx_cnt hr he
  have := posT_le R (rdV R).toNat
  omega
end Go.Proofs.Ytjgkaimgocnkmaa.oct
