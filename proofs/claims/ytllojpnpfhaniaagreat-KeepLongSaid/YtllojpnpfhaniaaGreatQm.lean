/- Layer seal: sums, bit by bit and byte by byte. No condition. -/
import Derived.Test.YtllojpnpfhaniaaGreatQd
set_option linter.unusedVariables false
set_option linter.unusedSimpArgs false
set_option linter.deprecated false
namespace Go.Proofs.YtllojpnpfhaniaaGreat.oct
open Go Go.Proofs.YtllojpnpfhaniaaGreat.Sx
theorem stp_xor (a b : Nat) : stp (a ^^^ b) = stp a ^^^ stp b := by
 unfold stp
 have h1 : (a ^^^ b) / 2 = a / 2 ^^^ b / 2 := by
  apply Nat.eq_of_testBit_eq; intro i
  simp [Nat.testBit_div_two, Nat.testBit_xor]
 have h2 : ((a ^^^ b) % 2 = 1) = ((a % 2 = 1) ≠ (b % 2 = 1)) := by
  have := Nat.testBit_xor a b 0
  simp only [Nat.testBit_zero] at this
  by_cases ha : a % 2 = 1 <;> by_cases hb : b % 2 = 1 <;> simp_all
 rw [h1]
 simp only [h2]
 apply Nat.eq_of_testBit_eq; intro i
 by_cases ha : a % 2 = 1 <;> by_cases hb : b % 2 = 1 <;> simp [ha, hb, Nat.testBit_xor]
 all_goals (cases (a / 2).testBit i <;> cases (b / 2).testBit i <;> cases Nat.testBit 3988292384 i <;> rfl)
theorem stn_xor : ∀ (k a b : Nat), stn k (a ^^^ b) = stn k a ^^^ stn k b
 | 0, _, _ => rfl
 | k + 1, a, b => by rw [stn, stn, stn, stp_xor, stn_xor k]
theorem stp_two (m : Nat) : stp (2 * m) = m := by unfold stp; simp
theorem stn_pow : ∀ (k m : Nat), stn k (2 ^ k * m) = m
 | 0, m => by simp [stn]
 | k + 1, m => by rw [stn, Nat.pow_succ, Nat.mul_comm (2 ^ k) 2, Nat.mul_assoc, stp_two, stn_pow k]
theorem split8 (w : Nat) : w = 256 * (w / 256) ^^^ w % 256 := by
 apply Nat.eq_of_testBit_eq; intro i
 rw [Nat.testBit_xor, show (256 : Nat) = 2 ^ 8 from rfl, Nat.testBit_two_pow_mul, Nat.testBit_mod_two_pow, Nat.testBit_div_two_pow]
 by_cases h : i < 8
 ·simp [h, show ¬ 8 ≤ i by omega]
 ·simp [h, show 8 ≤ i by omega, show i - 8 + 8 = i by omega]
theorem byte_step (w x : Nat) : stn 8 (w ^^^ x) = w / 256 ^^^ stn 8 (w % 256 ^^^ x) := by
 conv => lhs; rw [split8 w]
 rw [Nat.xor_assoc, stn_xor, show 256 = 2 ^ 8 from rfl, stn_pow]
theorem stp_lt (w : Nat) (h : w < 4294967296) : stp w < 4294967296 := by
 unfold stp
 exact Nat.xor_lt_two_pow (n := 32) (by omega) (by split <;> omega)
theorem stn_lt : ∀ (k w : Nat), w < 4294967296 → stn k w < 4294967296
 | 0, _, h => h
 | k + 1, w, h => by rw [stn]; exact stn_lt k _ (stp_lt w h)
theorem mul_turn (b : Nat) (h : b < 2) : 3988292384 * b = if b = 1 then 3988292384 else 0 := by
 rcases (show b = 0 ∨ b = 1 by omega) with rfl | rfl <;> simp

theorem stn_succ : ∀ (k w : Nat), stn (k + 1) w = stp (stn k w)
 | 0, w => rfl
 | k + 1, w => by rw [stn, stn_succ k, stn]
theorem wrap32u (n : Int) : IntKind.wrap .u32 n = n % 4294967296 := by
 unfold IntKind.wrap; simp [IntKind.bits, IntKind.signed]
theorem xor_32 {a b : Nat} (ha : a < 4294967296) (hb : b < 4294967296) : binI .xor .u32 (a : Int) (b : Int) = ((a ^^^ b : Nat) : Int) := by
 show IntKind.wrap .u32 (((BitVec.ofInt 32 (a : Int) ^^^ BitVec.ofInt 32 (b : Int)).toNat : Nat) : Int) = _
 have h : (BitVec.ofInt 32 (a : Int) ^^^ BitVec.ofInt 32 (b : Int)).toNat = a ^^^ b := by
  rw [BitVec.toNat_xor, BitVec.ofInt_natCast, BitVec.ofInt_natCast, BitVec.toNat_ofNat, BitVec.toNat_ofNat, Nat.mod_eq_of_lt ha, Nat.mod_eq_of_lt hb]
 rw [h, wrap32u]
 have := Nat.xor_lt_two_pow (n := 32) ha hb
 exact Int.emod_eq_of_lt (by omega) (by omega)
theorem xor_8 {a b : Nat} (ha : a < 256) (hb : b < 256) : binI .xor .u8 (a : Int) (b : Int) = ((a ^^^ b : Nat) : Int) := by
 show IntKind.wrap .u8 (((BitVec.ofInt 8 (a : Int) ^^^ BitVec.ofInt 8 (b : Int)).toNat : Nat) : Int) = _
 have h : (BitVec.ofInt 8 (a : Int) ^^^ BitVec.ofInt 8 (b : Int)).toNat = a ^^^ b := by
  rw [BitVec.toNat_xor, BitVec.ofInt_natCast, BitVec.ofInt_natCast, BitVec.toNat_ofNat, BitVec.toNat_ofNat, Nat.mod_eq_of_lt ha, Nat.mod_eq_of_lt hb]
 rw [h, wrap8]
 have := Nat.xor_lt_two_pow (n := 8) ha hb
 exact Int.emod_eq_of_lt (by omega) (by omega)
theorem and1_32 {a : Nat} (ha : a < 4294967296) : binI .and .u32 (a : Int) 1 = ((a % 2 : Nat) : Int) := by
 show IntKind.wrap .u32 (((BitVec.ofInt 32 (a : Int) &&& BitVec.ofInt 32 ((1 : Nat) : Int)).toNat : Nat) : Int) = _
 have h : (BitVec.ofInt 32 (a : Int) &&& BitVec.ofInt 32 ((1 : Nat) : Int)).toNat = a % 2 := by
  rw [BitVec.toNat_and, BitVec.ofInt_natCast, BitVec.ofInt_natCast, BitVec.toNat_ofNat, BitVec.toNat_ofNat, Nat.mod_eq_of_lt ha]
  exact Nat.and_one_is_mod a
 rw [h, wrap32u]
 omega
theorem crc_lt (L : LV) : ∀ k, crcT L k < 4294967296
 | 0 => by show (4294967295 : Nat) < 4294967296; decide
 | k + 1 => by
  have hb := bI_rng L k
  exact stn_lt 8 _ (Nat.xor_lt_two_pow (n := 32) (crc_lt L k) (by omega))
theorem tab_len (k : Nat) : (tabL k).length = 256 := by simp [tabL]
theorem tab_get (k j : Nat) (h : j < 256) : (tabL k)[j]? = some [.int .u32 (if j < k then ((stn 8 j : Nat) : Int) else 0)] := by
 simp [tabL, List.getElem?_map, List.getElem?_range h]
theorem crc_tab {L : LV} {k : Nat} : crcT L (k + 1) = crcT L k / 256 ^^^ stn 8 (crcT L k % 256 ^^^ (bI L k).toNat) := by
 rw [crcT, byte_step]
theorem quo2 {a : Nat} (ha : a < 4294967296) : binI .quo .u32 (a : Int) 2 = ((a / 2 : Nat) : Int) := by
 show IntKind.wrap .u32 ((a : Int).tdiv 2) = _
 rw [Int.tdiv_eq_ediv_of_nonneg (by omega), wrap32u]; omega
theorem rem2 (a : Nat) : binI .rem .u32 (a : Int) 2 = ((a % 2 : Nat) : Int) := by
 show (a : Int).tmod 2 = _
 rw [Int.tmod_eq_emod_of_nonneg (by omega)]; omega
theorem up_odd {w : Int} {a : Nat} (ha : a < 4294967296) (hw : w = (a : Int)) (h : binI .rem .u32 w 2 = 1) : binI .xor .u32 (binI .quo .u32 w 2) 3988292384 = ((stp a : Nat) : Int) := by
 subst hw
 rw [rem2] at h
 rw [quo2 ha, show (3988292384 : Int) = ((3988292384 : Nat) : Int) from rfl, xor_32 (by omega) (by omega), stp, if_pos (by omega)]
theorem up_even {w : Int} {a : Nat} (ha : a < 4294967296) (hw : w = (a : Int)) (h : ¬ binI .rem .u32 w 2 = 1) : binI .quo .u32 w 2 = ((stp a : Nat) : Int) := by
 subst hw
 rw [rem2] at h
 rw [quo2 ha, stp, if_neg (by omega), Nat.xor_zero]
def inB (L : LV) (i k : Nat) : Nat := stn k (crcT L i ^^^ (bI L i).toNat)
theorem inB_lt (L : LV) (i k : Nat) : inB L i k < 4294967296 := by
 have hb := bI_rng L i
 exact stn_lt k _ (Nat.xor_lt_two_pow (n := 32) (crc_lt L i) (by omega))
theorem inB_0 {L : LV} {i : Nat} {w : Int} (h : w = (crcT L i : Int)) : binI .xor .u32 w (bI L i) = (inB L i 0 : Int) := by
 have hb := bI_rng L i
 obtain ⟨b, hb2⟩ : ∃ b : Nat, bI L i = (b : Int) := ⟨(bI L i).toNat, by omega⟩
 rw [h, inB, stn, hb2, xor_32 (crc_lt L i) (by omega)]
 simp
theorem inB_s (L : LV) (i k : Nat) : stp (inB L i k) = inB L i (k + 1) := (stn_succ k _).symm
theorem inB_8 (L : LV) (i : Nat) : inB L i 8 = crcT L (i + 1) := rfl
theorem sum_in (L : LV) : clampK .u32 (sumI L) = sumI L := by
 have := crc_lt L L.length
 exact clamp_id ⟨by unfold sumI; show (0 : Int) ≤ _; omega, by unfold sumI; show _ ≤ (4294967295 : Int); omega⟩
end Go.Proofs.YtllojpnpfhaniaaGreat.oct
