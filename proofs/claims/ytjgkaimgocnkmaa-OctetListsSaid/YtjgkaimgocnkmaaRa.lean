/- Layer octet: lists of texts. No condition. -/
import Derived.Test.YtjgkaimgocnkmaaTa
set_option linter.unusedVariables false
set_option linter.unusedSimpArgs false
set_option linter.deprecated false
namespace Go.Proofs.Ytjgkaimgocnkmaa.oct
open Go Go.Proofs.Ytjgkaimgocnkmaa.Sx
noncomputable section
def rS2 : AL := .lst (.rom 0) (.int .i64 (xv 1) .nil)
def lsEE : IE := .fn .i64 10 rS2
def lsNE : IE := .fn .i64 11 rS2
def lsLE : LE := .fn 2 rS2
def lsBE : BE := .fn 1 rS2
def kS : List CK := [.str]
def rowS : SObj := .rowl lsLE (.len lsLE) kS 9 1 1
def preS : List BE := [.le (.lit 1) (ln 0), .le (ln 0) (.lit 2000), .le (ln 0) (.rcap 0)]
def resSR : SV := .tup [.sll 0 1 1 (.lit 0) (.len lsLE) none, .int .i64 lsNE, .int .i64 (.lit 0)]
def resSN : SV := .tup [.const (.slice none 0 0), .int .i64 lsNE, .int .i64 lsEE]
def preL : List BE := [.le (.lit 1) (ln 0), .le (ln 0) (.lit 2000)]
def cRListR : Ctr := ⟨35, [sl0 0, iv 1], rB, lsBE :: preL, resSR, [(0, rowS)], 2, [.le (.lit 1) (.len lsLE), .le (.len lsLE) (.lit 2000)]⟩
def cRListN : Ctr := ⟨35, [sl0 0, iv 1], rB, .not lsBE :: preL, resSN, [], 0, []⟩
def cListR : Ctr := ⟨33, [sl0 0, iv 1], rB, lsBE :: preL, resSR, [(0, rowS)], 2, [.le (.lit 1) (.len lsLE), .le (.len lsLE) (.lit 2000)]⟩
def cListN : Ctr := ⟨33, [sl0 0, iv 1], rB, .not lsBE :: preL, resSN, [], 0, []⟩
def rSS : Roms := [(0, (1, kS)), (1, (1, kS))]
def cSameS : Ctr := ⟨34, [sl0 0, sl0 1], rSS, [], .bool (.leq (.rom 0) (.rom 1)), [], 0, []⟩
def cRReadTe : Ctr := ⟨27, [sl0 0], rB, [.le (ln 0) (.lit 0)], .tup [.lstr (.fn 3 rdA), .int .i64 (.fn .i64 8 rdA), .int .i64 (.fn .i64 9 rdA)], [], 0, [.le (.lit 0) (.fn .i64 8 rdA), .le (.fn .i64 8 rdA) (.lit 0), .eq (.fn .i64 9 rdA) (.lit 110)]⟩
def cListedR : Ctr := ⟨7, [sl0 0, iv 1], rB, [lsBE, .le (.lit 1) (ln 0)], .bool (.lit true), [], 0, []⟩
def cListedN : Ctr := ⟨7, [sl0 0, iv 1], rB, [.not lsBE, .le (.lit 1) (ln 0)], .bool (.lit true), [], 0, []⟩
def cListed0 : Ctr := ⟨7, [sl00, iv 1], rB, [], .bool (.lit true), [], 0, []⟩
end
theorem posT_le (L : LV) : ∀ j, posT L j ≤ L.length
  | 0 => by
    have := rdN_rng L
    rw [posT]; omega
  | j + 1 => by
    have h := posT_le L j
    have h2 := txtN_rng (L.drop (posT L j))
    rw [List.length_drop] at h2
    rw [posT]; omega
theorem txtE_no {L : LV} (h : ¬ txtE L = 0) : ¬ txtB L := fun k => h (by rw [txtE, if_pos k])
theorem txtE_yes {L : LV} (h : txtE L = 0) : txtB L := by
  by_cases k : txtB L
  · exact k
  · exfalso
    rw [txtE, if_neg k] at h
    split at h
    · exact absurd h (by decide)
    · rename_i n; exact n h
theorem rdN_pos1 {L : LV} (h : rdE L = 0) : 1 ≤ rdN L := by
  have hk : okR L = true := by
    cases hk : okR L with
    | true => rfl
    | false =>
      unfold rdE at h
      rw [hk] at h
      rw [if_neg (by decide)] at h
      split at h <;> omega
  rw [rdN, hk, if_pos rfl]; omega
theorem tx_e {L : LV} (h : L.length = 0) : txtL L = [] ∧ txtN L = 0 ∧ txtE L = 110 ∧ rdE L = 110 := by
  obtain rfl := List.length_eq_zero_iff.1 h
  have r : rdE ([] : LV) = 110 := by decide
  have := tx_no (L := []) (by rw [r]; decide)
  rw [r] at this
  exact ⟨this.1, this.2.1, this.2.2, r⟩
theorem txtN_pos {L : LV} (h : txtE L = 0) : 1 ≤ txtN L := by
  have k := txtE_yes h
  have h1 := rdN_pos1 k.1
  have h2 := rdV_rng L
  rw [txtN, if_pos k]; omega
theorem txtE_nil {L : LV} {a : Int} (h : (L.length : Int) ≤ a) : txtE (L.drop a.toNat) = 110 := by
  rw [List.drop_eq_nil_of_le (by omega)]
  have : ¬ txtB ([] : LV) := fun k => absurd k.1 (by decide)
  rw [txtE, if_neg this]; rfl
/-- So many texts are read; the next begins at a. -/
structure Tx (L : LV) (j a : Int) : Prop where
  n0 : 0 ≤ j
  ok : rdE L = 0
  no : errT L j.toNat = 0
  at_ : a = ((posT L j.toNat : Nat) : Int)
theorem tx0 {L : LV} {a : Int} (h : rdE L = 0) (ha : a = rdN L) : Tx L 0 a := by
  have := rdN_rng L
  refine ⟨by omega, h, rfl, ?_⟩
  show a = (((rdN L).toNat : Nat) : Int)
  omega
theorem tx_rng {L : LV} {j a : Int} (t : Tx L j a) : 0 ≤ a ∧ a ≤ (L.length : Int) := by
  have := posT_le L j.toNat
  have := t.at_
  omega
theorem txs {L : LV} {j a : Int} (t : Tx L j a) (h : txtE (L.drop a.toNat) = 0) : Tx L (j + 1) (a + txtN (L.drop a.toNat)) := by
  have e : a.toNat = posT L j.toNat := by have := t.at_; omega
  have q := txtN_rng (L.drop a.toNat)
  have n0 := t.n0
  refine ⟨by omega, t.ok, ?_, ?_⟩
  · rw [show (j + 1).toNat = j.toNat + 1 by omega, errT, if_pos t.no, ← e]; exact h
  · rw [show (j + 1).toNat = j.toNat + 1 by omega, posT, ← e]
    have := t.at_
    omega
theorem tx_cnt {L : LV} : ∀ {j : Nat}, rdE L = 0 → errT L j = 0 → j + 1 ≤ posT L j
  | 0, h, _ => by
    have := rdN_pos1 h
    rw [posT]; omega
  | j + 1, h, h2 => by
    rw [errT] at h2
    split at h2
    · rename_i h3
      have := tx_cnt (j := j) h h3
      have := txtN_pos h2
      rw [posT]; omega
    · rename_i h3; exact absurd h2 h3
theorem tx_le {L : LV} {j a : Int} (t : Tx L j a) : j + 1 ≤ a := by
  have := tx_cnt t.ok t.no
  have := t.at_
  have := t.n0
  omega
theorem errT_mono {L : LV} {j k : Nat} (h : ¬ errT L j = 0) (hk : j ≤ k) : errT L k = errT L j := by
  induction k with
  | zero => rw [show j = 0 by omega]
  | succ k ih =>
    by_cases e : j = k + 1
    · rw [e]
    · have := ih (by omega)
      rw [errT, if_neg (by rw [this]; exact h), this]
theorem tx_err {L : LV} {j a e m : Int} (t : Tx L j a) (hj : j < rdV L) (hm : rdV L ≤ m ∨ rdV L ≤ 0) (he : e = txtE (L.drop a.toNat)) (h : ¬ e = 0) : lsE L m = e := by
  have ea : a.toNat = posT L j.toNat := by have := t.at_; omega
  have n0 := t.n0
  have e1 : errT L (j.toNat + 1) = e := by rw [errT, if_pos t.no, ← ea, he]
  rw [lsE, if_pos t.ok, if_pos hm, errT_mono (j := j.toNat + 1) (by rw [e1]; exact h) (by omega), e1]
theorem tx_end {L : LV} {j a m : Int} (t : Tx L j a) (hj : j = rdV L) (hm : rdV L ≤ m ∨ rdV L ≤ 0) : lsE L m = 0 ∧ lsN L m = a := by
  have h1 : lsE L m = 0 := by rw [lsE, if_pos t.ok, if_pos hm, ← hj, t.no]
  refine ⟨h1, ?_⟩
  rw [lsN, if_pos h1, ← hj, t.at_]
theorem ls_no {L : LV} {m : Int} (h : ¬ rdE L = 0) : lsE L m = rdE L := by rw [lsE, if_neg h]
theorem ls_long {L : LV} {m : Int} (h : rdE L = 0) (h2 : ¬ (rdV L ≤ m ∨ rdV L ≤ 0)) : lsE L m = 3 := by rw [lsE, if_pos h, if_neg h2]
theorem lsN_no {L : LV} {m : Int} (h : ¬ lsE L m = 0) : lsN L m = 0 := by rw [lsN, if_neg h]
theorem lsB_t {L : LV} {m : Int} : lsB L m = true ↔ lsE L m = 0 ∧ 1 ≤ rdV L := by
  unfold lsB; exact decide_eq_true_iff
theorem lsL_t {L : LV} {m : Int} (h : lsB L m = true) : lsL L m = txsT L (rdV L).toNat := by rw [lsL, if_pos h]
theorem txs_len (L : LV) : ∀ j, (txsT L j).length = j
  | 0 => rfl
  | j + 1 => by rw [txsT, List.length_append, txs_len L j]; rfl
theorem lsE_in (L : LV) (m : Int) : clampK .i64 (lsE L m) = lsE L m := by
  have ht : ∀ K : LV, clampK .i64 (txtE K) = txtE K := by
    intro K; unfold txtE; split
    · rfl
    · split
      · rfl
      · exact rdE_in K
  have he : ∀ j, clampK .i64 (errT L j) = errT L j := by
    intro j
    induction j with
    | zero => rfl
    | succ j ih => rw [errT]; split
                   · exact ht _
                   · exact ih
  unfold lsE; split
  · split
    · exact he _
    · rfl
  · exact rdE_in L
theorem lsN_rng (L : LV) (m : Int) : 0 ≤ lsN L m ∧ lsN L m ≤ (L.length : Int) := by
  unfold lsN; split
  · have := posT_le L (rdV L).toNat; omega
  · omega
theorem txtE_in (L : LV) : clampK .i64 (txtE L) = txtE L := by
  unfold txtE; split
  · rfl
  · split
    · rfl
    · exact rdE_in L
theorem txtN_in {L : LV} (h : (L.length : Int) ≤ 9223372036854775807) : clampK .i64 (txtN L) = txtN L := by
  have := txtN_rng L
  exact i64_in (by omega) (by omega)
theorem txtN_ind {L : LV} (h : (L.length : Int) ≤ 9223372036854775807) (a : Nat) : clampK .i64 (txtN (L.drop a)) = txtN (L.drop a) := by
  refine txtN_in ?_
  rw [List.length_drop]; omega
theorem lsN_in {L : LV} {m : Int} (h : (L.length : Int) ≤ 9223372036854775807) : clampK .i64 (lsN L m) = lsN L m := by
  have := lsN_rng L m
  exact i64_in (by omega) (by omega)
theorem post_ls {R : LV} {m : Int} (hB : lsB R m = true) (hl : (R.length : Int) ≤ 2000) : (1 : Int) ≤ (((lsL R m).length : Nat) : Int) ∧ (((lsL R m).length : Nat) : Int) ≤ 2000 := by
  obtain ⟨h1, h2⟩ := lsB_t.1 hB
  rw [lsL_t hB, txs_len]
  refine ⟨by omega, ?_⟩
  have hr : rdE R = 0 := by
    by_cases c : rdE R = 0
    · exact c
    · rw [ls_no c] at h1; exact h1
  have he : errT R (rdV R).toNat = 0 := by
    rw [lsE, if_pos hr] at h1
    split at h1
    · exact h1
    · exact absurd h1 (by decide)
  have := tx_cnt hr he
  have := posT_le R (rdV R).toNat
  omega
/-- The row so far. -/
theorem txs_s {L W : LV} {j a : Int} (t : Tx L j a) (hw : W = txsT L j.toNat) : W ++ [[.string (byteL (txtL (L.drop a.toNat)))]] = txsT L (j + 1).toNat := by
  have e : a.toNat = posT L j.toNat := by have := t.at_; omega
  have n0 := t.n0
  rw [show (j + 1).toNat = j.toNat + 1 by omega, txsT, ← e, hw]
end Go.Proofs.Ytjgkaimgocnkmaa.oct
