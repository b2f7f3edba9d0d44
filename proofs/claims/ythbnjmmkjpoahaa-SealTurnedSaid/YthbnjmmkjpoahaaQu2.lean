/- Layer seal: a table that is filled, and a sum by it, where they stand: words. No condition. -/
import Derived.Test.YthbnjmmkjpoahaaQu
set_option linter.unusedVariables false
set_option linter.unusedSimpArgs false
set_option linter.deprecated false
namespace Go.Proofs.Ythbnjmmkjpoahaa.oct
open Go Go.Proofs.Ythbnjmmkjpoahaa.Sx
noncomputable section
def tabE : LE := .fn 2 (.int .i64 (.lit 256) .nil)
def zerE : LE := .rep (.int .u32 (.lit 0) .nil) (.lit 256)
def rdr (c : LE) (at_ : SV) : SObj := .mix [.opq 1] c 256 .u32 [at_] 63
def atV : SV := .int .i64 (.var .i64 1)
def mFill : Mtr := ⟨23, [.ptr 1000000 1], [(1000000, rdr zerE atV)], 1001000, [], [], .tup [], [(1000000, rdr tabE atV)], 1001000, []⟩
def winE : LE := .take (.rom 0) (.var .i64 2)
def romW : SV := .rom 0 (.lit 0) (.var .i64 2) (some (.var .i64 2))
def hSum : SHeap := [(1000000, rdr tabE atV), (1000001, .cells [romW] 22)]
def mSum : Mtr := ⟨24, [.ptr 1000000 1, .slice 1000001 0 1 1], hSum, 1001000, rB, [.le (.lit 0) (xv 2), .le (xv 2) (ln 0)], .int .u32 (.fn .u32 20 (.lst winE .nil)), hSum, 1001000, []⟩
end
theorem bI_take {L : LV} {n i : Nat} (h : i < n) : bI (L.take n) i = bI L i := by
  unfold bI celV
  simp [List.getElem?_take, h]
theorem crcT_take {L : LV} {n : Nat} : ∀ {k : Nat}, k ≤ n → crcT (L.take n) k = crcT L k
  | 0, _ => rfl
  | k + 1, h => by rw [crcT, crcT, crcT_take (by omega), bI_take (by omega)]
theorem rdE_nil : rdE [] = 110 := by unfold rdE okR atR; simp [firstP]
theorem rdV_nil : rdV [] = 0 := by unfold rdV okR atR; simp [firstP]
theorem cE (L : LV) : clampK .i64 (rdE L) = rdE L := clampS (by unfold rdE; split <;> (try split) <;> omega) (by unfold rdE; split <;> (try split) <;> omega)
theorem cN (L : LV) : clampK .i64 (rdN L) = rdN L := by have := rdN_rng L; exact clampS (by omega) (by omega)
theorem cV (L : LV) : clampK .u64 (rdV L) = rdV L := by
  have := atR_9 L
  unfold rdV
  split
  · rename_i h
    have h2 := h
    simp only [okR, Bool.and_eq_true, decide_eq_true_eq, Bool.not_eq_true'] at h2
    have h3 := val_rng L (atR L + 1)
    exact u64_in ⟨h3.1, val_top (first_none fun i hi => first_lt hi) h2.2⟩
  · exact u64_in ⟨by omega, by omega⟩
theorem rdV_0 (L : LV) : 0 ≤ rdV L := by
  unfold rdV
  split
  · exact (val_rng L _).1
  · omega
theorem cO (L : LV) : clampK .i64 (opE L) = opE L := by
  have e : 0 ≤ opE L ∧ opE L ≤ 1000 := by
    unfold opE rdE
    repeat' split
    all_goals omega
  exact clampS (by omega) (by omega)
theorem cM (L : LV) : clampK .i64 (opN L) = opN L := by
  have hN := rdN_rng L
  have hV := rdV_0 L
  by_cases e : opE L = 0
  · obtain ⟨_, _, k3, _⟩ := op_ok e
    rw [opN_e e]
    exact clampS (by omega) (by omega)
  · have : opN L = 0 := by unfold opN; rw [if_neg e]
    rw [this]; rfl
theorem pl5t {L : LV} (h : Typed byteK L) : Φ.l 5 [.lst L] = opL L := by rw [pl4, if_pos h]
theorem four_s (M : LV) : ([[Value.int .u8 (IntKind.wrap .u8 (binI .shr .u32 (sumI M) 24))]] ++ ([[Value.int .u8 (IntKind.wrap .u8 (binI .shr .u32 (sumI M) 16))]] ++ ([[Value.int .u8 (IntKind.wrap .u8 (binI .shr .u32 (sumI M) 8))]] ++ [[Value.int .u8 (IntKind.wrap .u8 (sumI M))]])) : LV) = fourL (sumI M) := by
  have h := sum_rng M
  obtain ⟨a, ha⟩ : ∃ a : Nat, sumI M = (a : Int) := ⟨(sumI M).toNat, by omega⟩
  rw [ha, shr24_32, shr16_32, shr8_32]
  simp only [wrap8, fourL, rowB, List.map, List.cons_append, List.nil_append]
  simp only [Int.natCast_ediv]
  rfl
theorem opL_len {L : LV} (h : opE L = 0) : ((opL L).length : Int) = rdV L := by
  have hN := rdN_rng L
  have hV := rdV_0 L
  obtain ⟨_, _, k3, _⟩ := op_ok h
  rw [opL_e h, List.length_take, List.length_drop]
  omega
theorem post_op {c : Ctr} (h1 : c.pre.head? = some (.eq opEE (.lit 0))) (h2 : c.post = postOp) : PostOk Φ c := fun ρ hF hp => by
  rw [h2]
  cases hq : c.pre with
  | nil => rw [hq] at h1; cases h1
  | cons p l =>
    rw [hq] at h1 hp
    cases h1
    have h := hp.head
    simp only [opEE, rdA, d_eq, IE.den, LE.den, AL.den, hF, pi21, cO] at h
    have hN := rdN_rng (ρ.z.rl 0)
    have hV := rdV_0 (ρ.z.rl 0)
    obtain ⟨_, k2, k3, _⟩ := op_ok h
    have e := opN_e h
    have hN1 : 1 ≤ rdN (ρ.z.rl 0) := by
      obtain ⟨k1, _⟩ := op_ok h
      unfold rdE at k1
      unfold rdN
      split at k1
      · rename_i q; rw [if_pos q]; omega
      · split at k1 <;> omega
    show Holds ρ [_, _]
    simp only [h_nil, h_cons, d_le, IE.den, LE.den, AL.den, opNE, rdA, ln, lenV, hF, pi22, cM, and_true]
    omega
end Go.Proofs.Ythbnjmmkjpoahaa.oct
