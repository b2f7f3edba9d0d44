/- Layer seal: a frame with a bit turned over, words. No condition. -/
import Derived.Test.YthbnjmmkjpoahaaQk
set_option linter.unusedVariables false
set_option linter.unusedSimpArgs false
set_option linter.deprecated false
namespace Go.Proofs.Ythbnjmmkjpoahaa.oct
open Go Go.Proofs.Ythbnjmmkjpoahaa.Sx
noncomputable section
def bitI : IE := .var .i64 1
def q8E : IE := .bin .quo .i64 bitI (.lit 8)
def r8E : IE := .bin .rem .i64 bitI (.lit 8)
def bitP : List BE := [.le (.lit 0) bitI, .le (.lit 0) q8E, .le (.mul (.lit 8) q8E) bitI, .le (.lit 0) r8E, .le r8E (.lit 7)]
def cTu (a b : List BE) (p : SV) : Ctr := ⟨8, [p, iv 1], rB, a ++ b, .bool (.lit true), [], 0, []⟩
def cTuA : Ctr := cTu [.le (.lit 1) (ln 0)] bitP (sl0 0)
def cTuB : Ctr := cTu [.le (.lit 1) (ln 0)] [.not (.le (.lit 0) bitI)] (sl0 0)
def cTu0A : Ctr := cTu [] bitP sl00
def cTu0B : Ctr := cTu [] [.not (.le (.lit 0) bitI)] sl00
end
/- one bit of a byte -/
theorem turn_all : ∀ a : Nat, a < 256 → ∀ r : Nat, r < 8 → binI .xor .u8 (a : Int) (binI .shl .u8 1 (r : Int)) ≠ (a : Int) ∧ 0 ≤ binI .xor .u8 (a : Int) (binI .shl .u8 1 (r : Int)) ∧ binI .xor .u8 (a : Int) (binI .shl .u8 1 (r : Int)) ≤ 255 := by decide +kernel
theorem turn_b {b r : Int} (h0 : 0 ≤ b) (h1 : b ≤ 255) (r0 : 0 ≤ r) (r1 : r ≤ 7) : binI .xor .u8 b (binI .shl .u8 1 r) ≠ b ∧ 0 ≤ binI .xor .u8 b (binI .shl .u8 1 r) ∧ binI .xor .u8 b (binI .shl .u8 1 r) ≤ 255 := by
  obtain ⟨a, rfl⟩ : ∃ a : Nat, b = (a : Int) := ⟨b.toNat, by omega⟩
  obtain ⟨k, rfl⟩ : ∃ k : Nat, r = (k : Int) := ⟨r.toNat, by omega⟩
  exact turn_all a (by omega) k (by omega)
/- a state is known by what it becomes -/
theorem stp_zero {d : Nat} (h : d < 4294967296) (e : stp d = 0) : d = 0 := by
  unfold stp at e
  by_cases o : d % 2 = 1
  · rw [if_pos o] at e
    have : d / 2 = 3988292384 := by
      have h2 := congrArg (· ^^^ 3988292384) e
      simpa [Nat.xor_assoc] using h2
    omega
  · rw [if_neg o, Nat.xor_zero] at e; omega
theorem stp_inj {a b : Nat} (ha : a < 4294967296) (hb : b < 4294967296) (e : stp a = stp b) : a = b := by
  have h1 : stp (a ^^^ b) = 0 := by rw [stp_xor, e, Nat.xor_self]
  have h2 := stp_zero (Nat.xor_lt_two_pow (n := 32) ha hb) h1
  have h3 := congrArg (· ^^^ b) h2
  simpa [Nat.xor_assoc] using h3
theorem stn_inj : ∀ (k : Nat) {a b : Nat}, a < 4294967296 → b < 4294967296 → stn k a = stn k b → a = b
  | 0, a, b, _, _, e => e
  | k + 1, a, b, ha, hb, e => by
    rw [stn, stn] at e
    exact stp_inj ha hb (stn_inj k (stp_lt a ha) (stp_lt b hb) e)
theorem xor_cancel {a b c : Nat} (e : a ^^^ c = b ^^^ c) : a = b := by
  have := congrArg (· ^^^ c) e
  simpa [Nat.xor_assoc] using this
/-- Sums of bytes that differ in one place differ. -/
theorem crc_eq {L M : LV} {j : Nat} (h : ∀ i, i ≠ j → bI L i = bI M i) : ∀ {k : Nat}, k ≤ j → crcT L k = crcT M k
  | 0, _ => rfl
  | k + 1, hk => by rw [crcT, crcT, crc_eq h (by omega), h k (by omega)]
theorem crc_ne {L M : LV} {j : Nat} (h : ∀ i, i ≠ j → bI L i = bI M i) (hj : bI L j ≠ bI M j) : ∀ {k : Nat}, j < k → crcT L k ≠ crcT M k
  | 0, hk => by omega
  | k + 1, hk => by
    have b1 := bI_rng L k
    have b2 := bI_rng M k
    have l1 : crcT L k ^^^ (bI L k).toNat < 4294967296 := Nat.xor_lt_two_pow (n := 32) (crc_lt L k) (by omega)
    have l2 : crcT M k ^^^ (bI M k).toNat < 4294967296 := Nat.xor_lt_two_pow (n := 32) (crc_lt M k) (by omega)
    intro e
    rw [crcT, crcT] at e
    have e2 := stn_inj 8 l1 l2 e
    by_cases q : k = j
    · subst q
      rw [crc_eq h (Nat.le_refl _), Nat.xor_comm, Nat.xor_comm (crcT M k)] at e2
      have := xor_cancel e2
      exact hj (by omega)
    · rw [h k q] at e2
      exact crc_ne h hj (by omega) (xor_cancel e2)
theorem bI_set {L : LV} {j : Nat} {y : Int} (hj : j < L.length) (h0 : 0 ≤ y) (h1 : y ≤ 255) (i : Nat) : bI (L.set j [.int .u8 y]) i = if i = j then y else bI L i := by
  unfold bI celV
  by_cases e : i = j
  · subst e
    rw [if_pos rfl]
    simp [hj, intV]
    exact clamp_id ⟨h0, h1⟩
  · rw [if_neg e]
    simp only [Int.toNat_natCast, List.getD_eq_getElem?_getD, List.getElem?_set_ne (Ne.symm e)]
theorem four_inj {a b : Int} (a0 : 0 ≤ a) (a1 : a ≤ 4294967295) (b0 : 0 ≤ b) (b1 : b ≤ 4294967295) (h : fourL a = fourL b) : a = b := by
  have := rowB_inj h
  simp only [List.cons.injEq, and_true] at this
  omega
/-- A frame of which one bit behind its length is turned over is none. -/
theorem turned {b : LV} (hb : (b.length : Int) ≤ 65536) {j : Nat} {y : Int} (hj : (numL (clampK .u64 (b.length : Int))).length ≤ j) (hl : j < (sealL b).length) (y0 : 0 ≤ y) (y1 : y ≤ 255) (hy : y ≠ bI (sealL b) j) : opE ((sealL b).set j [.int .u8 y]) = 120 := by
  have hc : clampK .u64 (b.length : Int) = (b.length : Int) := u64_in ⟨by omega, by omega⟩
  rw [hc] at hj
  have hs := seal_len b
  rw [hc] at hs
  have e0 : sealL b = numL (b.length : Int) ++ (b ++ fourL (sumI (headL b))) := by
    have : sealL b = headL b ++ fourL (sumI (headL b)) := rfl
    rw [this]; unfold headL; rw [hc, List.append_assoc]
  have hh : (headL b).length = (numL (b.length : Int)).length + b.length := by rw [head_len, hc]
  have e1 : (sealL b).set j [.int .u8 y] = numL (b.length : Int) ++ (b ++ fourL (sumI (headL b))).set (j - (numL (b.length : Int)).length) [.int .u8 y] := by
    rw [e0, List.set_append_right _ _ hj]
  obtain ⟨r1, r2, r3⟩ := read_back (n := (b.length : Int)) (by omega) (by omega) ((b ++ fourL (sumI (headL b))).set (j - (numL (b.length : Int)).length) [.int .u8 y])
  rw [← e1] at r1 r2 r3
  have en : endN ((sealL b).set j [.int .u8 y]) = (headL b).length := by unfold endN; rw [r1, r2, hh]; omega
  refine opE_d r3 (by omega) (by rw [List.length_set]; omega) ?_
  rw [en]
  have eS : sealL b = headL b ++ fourL (sumI (headL b)) := rfl
  have s1 := sum_rng (headL b)
  by_cases q : j < (headL b).length
  · have e2 : (sealL b).set j [.int .u8 y] = (headL b).set j [.int .u8 y] ++ fourL (sumI (headL b)) := by rw [eS, List.set_append_left _ _ q]
    rw [e2, List.drop_left' (by rw [List.length_set]), List.take_left' (by rw [List.length_set])]
    intro h
    have h2 : fourL (sumI (headL b)) = fourL (sumI ((headL b).set j [.int .u8 y])) := by
      rw [← h]; exact (List.take_of_length_le (show (fourL _).length ≤ 4 from Nat.le_refl 4)).symm
    have s2 := sum_rng ((headL b).set j [.int .u8 y])
    have h3 := four_inj s1.1 s1.2 s2.1 s2.2 h2
    unfold sumI at h3
    rw [List.length_set] at h3
    have hset := bI_set q y0 y1
    have hby : bI (sealL b) j = bI (headL b) j := by rw [eS, bI_app_l q]
    have hne := crc_ne (L := headL b) (M := (headL b).set j [.int .u8 y]) (j := j) (fun i hi => by rw [hset i, if_neg hi]) (by rw [hset j, if_pos rfl, ← hby]; exact fun e => hy e.symm) q
    exact hne (by omega)
  · have e2 : (sealL b).set j [.int .u8 y] = headL b ++ (fourL (sumI (headL b))).set (j - (headL b).length) [.int .u8 y] := by rw [eS, List.set_append_right _ _ (by omega)]
    rw [e2, List.drop_left' rfl, List.take_left' rfl]
    intro h
    rw [List.take_of_length_le (by rw [List.length_set]; exact Nat.le_refl 4)] at h
    have hj2 : j - (headL b).length < (fourL (sumI (headL b))).length := by show _ < 4; omega
    have h2 := bI_set hj2 y0 y1 (j - (headL b).length)
    rw [if_pos rfl, h] at h2
    have hby : bI (sealL b) j = bI (fourL (sumI (headL b))) (j - (headL b).length) := by
      conv => lhs; rw [eS, show j = (headL b).length + (j - (headL b).length) by omega]
      rw [bI_app_r]
    exact hy (by rw [hby, h2])
theorem turned0 {j : Nat} {y : Int} (hj : (numL (clampK .u64 0)).length ≤ j) (hl : j < (sealL []).length) (y0 : 0 ≤ y) (y1 : y ≤ 255) (hy : y ≠ bI (sealL []) j) : opE ((sealL []).set j [.int .u8 y]) = 120 :=
  turned (b := []) (by decide) hj hl y0 y1 hy
/-- A case for each of two contracts. -/
theorem told_cases {F : Fns} {c c1 c2 : Ctr} (h1 : Sx.Told F c1) (h2 : Sx.Told F c2) (e1 : c1 = { c with pre := c1.pre }) (e2 : c2 = { c with pre := c2.pre }) (hf : freeL c.pre = true) (hp : c.post = []) (h : ∀ ρ : Rho, Gd F ρ → Holds ρ c.pre → Holds ρ c1.pre ∨ Holds ρ c2.pre) : Sx.Told F c := by
  refine ⟨⟨?_, ?_, fun ρ w g hr hh => ?_⟩, post_nil hp⟩
  · have := h1.ok.flat
    rw [e1] at this
    exact ⟨this.1, this.2.1, this.2.2.1, hf⟩
  · have := h1.ok.names
    rw [e1] at this
    exact this
  · rcases h ρ g hh with q | q
    · have k := h1.ok.call ρ w g (by rw [e1]; exact hr) q
      rw [e1] at k
      exact k
    · have k := h2.ok.call ρ w g (by rw [e2]; exact hr) q
      rw [e2] at k
      exact k
theorem bit_cases (ρ : Rho) (g : Gd Φ ρ) : Holds ρ bitP ∨ Holds ρ [.not (.le (.lit 0) bitI)] := by
  by_cases h : 0 ≤ ρ.i .i64 1
  · left
    have h2 := g.ok.hi .i64 1
    have h3 : kmax .i64 = 9223372036854775807 := rfl
    have q : binI .quo .i64 (ρ.i .i64 1) 8 = ρ.i .i64 1 / 8 := by
      show IntKind.wrap .i64 ((ρ.i .i64 1).tdiv 8) = _
      rw [Int.tdiv_eq_ediv_of_nonneg h]
      unfold IntKind.wrap
      simp [IntKind.bits, IntKind.signed]
      omega
    have r : binI .rem .i64 (ρ.i .i64 1) 8 = ρ.i .i64 1 % 8 := Int.tmod_eq_emod_of_nonneg h
    show Holds ρ [_, _, _, _, _]
    simp only [h_nil, h_cons, d_le, IE.den, bitI, q8E, r8E, q, r, and_true]
    omega
  · right
    simp only [h_nil, h_cons, d_le, d_not, IE.den, bitI, and_true]
    exact h
noncomputable section
def cSums (a b : List BE) (p q : SV) : Ctr := ⟨3, [p, q], rB2, a ++ b, .bool (.lit true), [], 0, []⟩
def cSu : Ctr := cSums [.le (.lit 1) (ln 0)] [.le (.lit 1) (ln 1)] (sl0 0) (sl0 1)
def cSu0 : Ctr := cSums [] [.le (.lit 1) (ln 1)] sl00 (sl0 1)
def cSu1 : Ctr := cSums [.le (.lit 1) (ln 0)] [] (sl0 0) (.rom 1 (.lit 0) (.lit 0) none)
def cSu2 : Ctr := cSums [] [] sl00 (.rom 1 (.lit 0) (.lit 0) none)
def cLong : Ctr := ⟨7, [.int .u8 (.var .u8 1), iv 2], [], [], .bool (.lit true), [], 0, []⟩
def cTu1 : Ctr := cTu [.le (.lit 1) (ln 0)] [] (sl0 0)
def cTu0 : Ctr := cTu [] [] sl00
end
theorem crcT_app {L M : LV} : ∀ {k : Nat}, k ≤ L.length → crcT (L ++ M) k = crcT L k
  | 0, _ => rfl
  | k + 1, h => by rw [crcT, crcT, crcT_app (by omega), bI_app_l (by omega)]
theorem sum_nil : sumI [] = 0 := rfl
theorem sum_end {L : LV} {w : Int} {k : Nat} (h : w = (crcT L k : Int)) (hk : k = L.length) : binI .xor .u32 4294967295 w = sumI L := by
  rw [h, not_32 (crc_lt _ _), hk]; rfl
theorem num3 {n : Int} (h0 : 16384 ≤ n) (h1 : n < 2097152) : (numL n).length = 3 := by
  rw [show numL n = rowB (numF 9 n) from rfl, rowB_len, numF, if_neg (by omega), numF, if_neg (by omega), numF, if_pos (by omega)]
  rfl
theorem c65537 : clampK .u64 65537 = 65537 := rfl
end Go.Proofs.Ythbnjmmkjpoahaa.oct
