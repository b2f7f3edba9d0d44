/- Layer seal: the table and its use. No condition. -/
import Derived.Test.YtllojpnpfhaniaaGreatQn
set_option linter.unusedVariables false
set_option linter.unusedSimpArgs false
set_option linter.deprecated false
namespace Go.Proofs.YtllojpnpfhaniaaGreat.oct
open Go Go.Proofs.YtllojpnpfhaniaaGreat.Sx
theorem tab_0 : List.replicate 256 [Value.int .u32 0] = tabL 0 := by
 refine List.ext_getElem? fun i => ?_
 by_cases h : i < 256
 ·rw [tab_get 0 i h, if_neg (by omega), List.getElem?_replicate, if_pos h]
 ·rw [List.getElem?_eq_none (by rw [List.length_replicate]; omega), List.getElem?_eq_none (by rw [tab_len]; omega)]
theorem tab_set {k : Nat} (h : k < 256) : (tabL k).set k [Value.int .u32 ((stn 8 k : Nat) : Int)] = tabL (k + 1) := by
 refine List.ext_getElem? fun i => ?_
 by_cases hi : i < 256
 ·rw [tab_get (k + 1) i hi, List.getElem?_set, tab_get k i hi]
  by_cases e : k = i
  ·subst e; rw [if_pos rfl, if_pos (by rw [tab_len]; exact h), if_pos (by omega)]
  ·rw [if_neg e]
   by_cases h2 : i < k
   ·rw [if_pos h2, if_pos (by omega)]
   ·rw [if_neg h2, if_neg (by omega)]
 ·rw [List.getElem?_eq_none (by rw [List.length_set, tab_len]; omega), List.getElem?_eq_none (by rw [tab_len]; omega)]
theorem shr1_32 {a : Nat} : binI .shr .u32 (a : Int) 1 = ((a / 2 : Nat) : Int) := by
 show (a : Int).fdiv (2 ^ (min (1 : Int).toNat 64)) = _
 rw [show (2 : Int) ^ (min (1 : Int).toNat 64) = 2 by decide, Int.fdiv_eq_ediv_of_nonneg _ (by omega)]; omega
theorem shr8_32 {a : Nat} : binI .shr .u32 (a : Int) 8 = ((a / 256 : Nat) : Int) := by
 show (a : Int).fdiv (2 ^ (min (8 : Int).toNat 64)) = _
 rw [show (2 : Int) ^ (min (8 : Int).toNat 64) = 256 by decide, Int.fdiv_eq_ediv_of_nonneg _ (by omega)]; omega
theorem shr16_32 {a : Nat} : binI .shr .u32 (a : Int) 16 = ((a / 65536 : Nat) : Int) := by
 show (a : Int).fdiv (2 ^ (min (16 : Int).toNat 64)) = _
 rw [show (2 : Int) ^ (min (16 : Int).toNat 64) = 65536 by decide, Int.fdiv_eq_ediv_of_nonneg _ (by omega)]; omega
theorem shr24_32 {a : Nat} : binI .shr .u32 (a : Int) 24 = ((a / 16777216 : Nat) : Int) := by
 show (a : Int).fdiv (2 ^ (min (24 : Int).toNat 64)) = _
 rw [show (2 : Int) ^ (min (24 : Int).toNat 64) = 16777216 by decide, Int.fdiv_eq_ediv_of_nonneg _ (by omega)]; omega
theorem up_mul {w : Int} {a : Nat} (ha : a < 4294967296) (hw : w = (a : Int)) : binI .xor .u32 (binI .shr .u32 w 1) (3988292384 * binI .and .u32 w 1) = ((stp a : Nat) : Int) := by
 subst hw
 rw [shr1_32, and1_32 ha]
 rw [show (3988292384 : Int) * ((a % 2 : Nat) : Int) = ((3988292384 * (a % 2) : Nat) : Int) by omega, xor_32 (by omega) (by omega), stp, mul_turn _ (by omega)]
theorem up_byte {w b : Int} {a c : Nat} {T : LV} (hT : T = tabL 256) (ha : a < 4294967296) (hw : w = (a : Int)) (hb : b = (c : Int)) (hc : c < 256) :
  binI .xor .u32 (binI .shr .u32 w 8) (clampK .u32 (intV (celV T (binI .xor .u8 (IntKind.wrap .u8 w) b) 0))) = ((a / 256 ^^^ stn 8 (a % 256 ^^^ c) : Nat) : Int) := by
 subst hw; subst hb; subst hT
 have hx := Nat.xor_lt_two_pow (n := 8) (show a % 256 < 2 ^ 8 by omega) hc
 have hs := stn_lt 8 (a % 256 ^^^ c) (by omega)
 rw [shr8_32, wrap8, show (a : Int) % 256 = ((a % 256 : Nat) : Int) by omega, xor_8 (by omega) hc]
 have e : celV (tabL 256) ((a % 256 ^^^ c : Nat) : Int) 0 = .int .u32 ((stn 8 (a % 256 ^^^ c) : Nat) : Int) := by
  unfold celV
  simp [tab_get 256 _ hx, hx]
 rw [e]
 show binI .xor .u32 _ (clampK .u32 ((stn 8 (a % 256 ^^^ c) : Nat) : Int)) = _
 rw [clamp_id ⟨by show (0 : Int) ≤ _; omega, by show _ ≤ (4294967295 : Int); omega⟩, xor_32 (by omega) hs]
theorem not_32 {a : Nat} (ha : a < 4294967296) : binI .xor .u32 4294967295 (a : Int) = 4294967295 - (a : Int) := by
 rw [show (4294967295 : Int) = ((4294967295 : Nat) : Int) from rfl, xor_32 (by omega) ha]
 have h : 4294967295 ^^^ a = 4294967295 - a := by
  have e1 : 4294967295 - a = 2 ^ 32 - (a + 1) := by omega
  rw [e1, show 4294967295 = 2 ^ 32 - 1 from rfl]
  refine Nat.eq_of_testBit_eq fun i => ?_
  rw [Nat.testBit_xor, Nat.testBit_two_pow_sub_one, Nat.testBit_two_pow_sub_succ ha]
  by_cases hi : i < 32
  ·simp [hi]
  ·have : a.testBit i = false := Nat.testBit_lt_two_pow (Nat.lt_of_lt_of_le ha (show 2 ^ 32 ≤ 2 ^ i from Nat.pow_le_pow_right (by decide) (by omega)))
   simp [hi, this]
 rw [h]; omega
theorem bI_app_l {a b : LV} {i : Nat} (h : i < a.length) : bI (a ++ b) i = bI a i := by
 unfold bI celV
 simp [List.getElem?_append_left h]
theorem bI_app_r {a b : LV} {i : Nat} : bI (a ++ b) (a.length + i) = bI b i := by
 unfold bI celV
 rw [show ((a.length + i : Nat) : Int).toNat = a.length + i by omega, show ((i : Nat) : Int).toNat = i by omega]
 simp [List.getElem?_append_right]
theorem crc_go {T L : LV} {w b : Int} {k : Nat} (hT : T = tabL 256) (hw : w = (crcT L k : Int)) (hb : b = bI L k) :
  binI .xor .u32 (binI .shr .u32 w 8) (clampK .u32 (intV (celV T (binI .xor .u8 (IntKind.wrap .u8 w) b) 0))) = (crcT L (k + 1) : Int) := by
 have hr := bI_rng L k
 rw [crc_tab]
 exact up_byte hT (crc_lt L k) hw (by omega) (by omega)
theorem four_is {w : Int} {a : Nat} (ha : a < 4294967296) (hw : w = (a : Int)) : ([[Value.int .u8 (IntKind.wrap .u8 (binI .shr .u32 (binI .xor .u32 4294967295 w) 24))]] ++ ([[Value.int .u8 (IntKind.wrap .u8 (binI .shr .u32 (binI .xor .u32 4294967295 w) 16))]] ++ ([[Value.int .u8 (IntKind.wrap .u8 (binI .shr .u32 (binI .xor .u32 4294967295 w) 8))]] ++ [[Value.int .u8 (IntKind.wrap .u8 (binI .xor .u32 4294967295 w))]])) : LV) = fourL (4294967295 - (a : Int)) := by
 subst hw
 rw [not_32 ha, show 4294967295 - (a : Int) = ((4294967295 - a : Nat) : Int) by omega, shr24_32, shr16_32, shr8_32]
 simp only [wrap8, fourL, rowB, List.map, List.cons_append, List.nil_append]
 simp only [Int.natCast_ediv]
 rfl
theorem head_len (L : LV) : (headL L).length = (numL (clampK .u64 (L.length : Int))).length + L.length := by rw [headL, List.length_append]
theorem seal_len (L : LV) : ((sealL L).length : Int) = ((numL (clampK .u64 (L.length : Int))).length : Int) + (L.length : Int) + 4 := by
 rw [sealL, List.length_append, head_len]
 show ((_ + 4 : Nat) : Int) = _
 omega
open Classical in
theorem pl3t {L : LV} (h : Typed byteK L) : Φ.l 3 [.lst L] = sealL L := by rw [pl3, if_pos h]
theorem quo_32 {s c : Int} (h0 : 0 ≤ s) (h1 : s ≤ 4294967295) (hc : 1 ≤ c) : binI .quo .u32 s c = s / c := by
 show IntKind.wrap .u32 (s.tdiv c) = _
 have h2 : 0 ≤ s / c := Int.ediv_nonneg h0 (by omega)
 have h3 : s / c ≤ s := Int.ediv_le_self c h0
 rw [Int.tdiv_eq_ediv_of_nonneg h0, wrap32u]; omega
theorem four_q {s : Int} (h0 : 0 ≤ s) (h1 : s ≤ 4294967295) : ([[Value.int .u8 (IntKind.wrap .u8 (binI .quo .u32 s 16777216))]] ++ ([[Value.int .u8 (IntKind.wrap .u8 (binI .quo .u32 s 65536))]] ++ ([[Value.int .u8 (IntKind.wrap .u8 (binI .quo .u32 s 256))]] ++ [[Value.int .u8 (IntKind.wrap .u8 s)]])) : LV) = fourL s := by
 rw [quo_32 h0 h1 (by decide), quo_32 h0 h1 (by decide), quo_32 h0 h1 (by decide)]
 simp only [wrap8, fourL, rowB, List.map, List.cons_append, List.nil_append]
theorem sum_rng (L : LV) : 0 ≤ sumI L ∧ sumI L ≤ 4294967295 := by
 have := crc_lt L L.length
 unfold sumI; omega
theorem post_se {c : Ctr} (h2 : c.post = postSe) : PostOk Φ c := fun ρ hF _ => by
 rw [h2]
 have hc := clamp_rng .u64 ((ρ.z.rl 0).length : Int)
 have h0 := seal_len (ρ.z.rl 0)
 have hn := num_len (clampK .u64 ((ρ.z.rl 0).length : Int))
 show Holds ρ [_, _]
 simp only [h_nil, h_cons, d_le, IE.den, LE.den, AL.den, sealE, rdA, ln, lenV, hF, pl3, and_true]
 split
 ·omega
 ·rw [List.length_replicate]; omega
end Go.Proofs.YtllojpnpfhaniaaGreat.oct
