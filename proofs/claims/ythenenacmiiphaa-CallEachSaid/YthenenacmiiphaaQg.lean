/- Layer octet: what is read, step by step. No condition. -/
import Derived.Test.YthenenacmiiphaaQd
set_option linter.unusedVariables false
set_option linter.unusedSimpArgs false
set_option linter.deprecated false
namespace Go.Proofs.Ythenenacmiiphaa.oct
open Go Go.Proofs.Ythenenacmiiphaa.Sx
abbrev bZ (R : LV) (i : Int) : Int := clampK .u8 (intV (celV R i 0))
theorem bad_f {R : LV} {i : Int} (h0 : 0 ≤ i) (h : ¬ (0 < i ∧ clampK .u8 (intV (celV R i 0)) = 0)) (h2 : ¬ (i = 9 ∧ 1 < clampK .u8 (intV (celV R i 0)))) : badP R i.toNat = false := by
 rw [b_z h0] at h h2
 simp only [badP, Bool.or_eq_false_iff, decide_eq_false_iff_not]
 exact ⟨fun ⟨a, b⟩ => h ⟨by omega, b⟩, fun ⟨a, b⟩ => h2 ⟨by omega, b⟩⟩
theorem bad_t {R : LV} {i : Int} (h0 : 0 ≤ i) (h : (0 < i ∧ clampK .u8 (intV (celV R i 0)) = 0) ∨ (i = 9 ∧ 1 < clampK .u8 (intV (celV R i 0)))) : badP R i.toNat = true := by
 rw [b_z h0] at h
 simp only [badP, Bool.or_eq_true, decide_eq_true_eq]
 rcases h with ⟨a, b⟩ | ⟨a, b⟩
 ·exact .inl ⟨by omega, b⟩
 ·exact .inr ⟨by omega, b⟩
theorem val_s {R : LV} {i : Int} (h0 : 0 ≤ i) : valI R (i + 1).toNat = valI R i.toNat + clampK .u8 (intV (celV R i 0)) % 128 * 128 ^ i.toNat := by
 rw [show (i + 1).toNat = i.toNat + 1 by omega, valI, b_z h0]
theorem go_on {R : LV} {i : Int} (h0 : 0 ≤ i) (hf : firstP (stopP R) i.toNat = i.toNat) (hb : badP R i.toNat = false) (h : 128 ≤ clampK .u8 (intV (celV R i 0))) : firstP (stopP R) (i + 1).toNat = (i + 1).toNat := by
 rw [show (i + 1).toNat = i.toNat + 1 by omega]
 refine first_no hf ?_
 rw [b_z h0] at h
 simp only [stopP, hb, Bool.false_or, decide_eq_false_iff_not]; omega
theorem rread_v {R : LV} {i : Int} (h0 : 0 ≤ i) (hf : firstP (stopP R) i.toNat = i.toNat) (hb : badP R i.toNat = false) : IntKind.wrap .u64 (valI R i.toNat + IntKind.wrap .u64 (binI .rem .u8 (clampK .u8 (intV (celV R i 0))) 128 * clampK .u64 (128 ^ i.toNat))) = valI R (i + 1).toNat := by
 have h9 := run9 hf
 have ht := val_top hf hb
 have hr := val_rng R i.toNat
 have e : (i + 1).toNat = i.toNat + 1 := by omega
 have hp : (0 : Int) < 128 ^ i.toNat ∧ (128 : Int) ^ i.toNat ≤ 9223372036854775808 := by
  rw [pow7]
  have h1 := Nat.two_pow_pos (7 * i.toNat)
  have h2 : 2 ^ (7 * i.toNat) ≤ 2 ^ 63 := Nat.pow_le_pow_right (by omega) (by omega)
  omega
 have hbi := clamp_rng .u8 (intV (celV R i 0))
 have m : binI .rem .u8 (clampK .u8 (intV (celV R i 0))) 128 = clampK .u8 (intV (celV R i 0)) % 128 := Int.tmod_eq_emod_of_nonneg hbi.1
 rw [m, u64_in (by omega), e, valI]
 rw [valI] at ht
 rw [b_z h0]
 have h4 : 0 ≤ bI R i.toNat % 128 * 128 ^ i.toNat := Int.mul_nonneg (by omega) (by omega)
 generalize bI R i.toNat % 128 * 128 ^ i.toNat = x at *
 rw [wrap64u, wrap64u]
 omega
theorem read_v {R : LV} {i : Int} (h0 : 0 ≤ i) (hf : firstP (stopP R) i.toNat = i.toNat) (hb : badP R i.toNat = false) : binI .or .u64 (valI R i.toNat) (binI .shl .u64 (binI .and .u8 (clampK .u8 (intV (celV R i 0))) 127) (7 * i)) = valI R (i + 1).toNat := by
 have h9 := run9 hf
 have hr := val_rng R i.toNat
 have hbi := bI_rng R i.toNat
 have e : (i + 1).toNat = i.toNat + 1 := by omega
 have ei : i = ((i.toNat : Nat) : Int) := by omega
 rw [b_z h0, and_b hbi.1 hbi.2, e, valI]
 have := or64 (n := valI R i.toNat) (b := bI R i.toNat) (i := i.toNat) hr.1 hr.2 hbi.1 hbi.2 h9 (fun h => by
  simp only [badP, Bool.or_eq_false_iff, decide_eq_false_iff_not] at hb
  have := hb.2
  omega)
 rw [← ei] at this
 exact this
theorem r_end {R : LV} {i : Int} (h1 : (R.length : Int) ≤ i) (h2 : i ≤ (R.length : Int)) (hf : firstP (stopP R) i.toNat = i.toNat) : rdV R = 0 ∧ rdN R = 0 ∧ rdE R = 110 := by
 rw [show i.toNat = R.length by omega] at hf
 have e : okR R = false := by simp [okR, atR, hf]
 refine ⟨?_, ?_, ?_⟩
 ·rw [rdV, e]; rfl
 ·rw [rdN, e]; rfl
 ·rw [rdE, e, if_neg (by decide), if_neg (by rw [atR]; omega)]
theorem at_is {R : LV} {i : Int} (h0 : 0 ≤ i) (hl : i < (R.length : Int)) (hf : firstP (stopP R) i.toNat = i.toNat) (hs : stopP R i.toNat = true) : atR R = i.toNat := first_yes (by omega) hf hs
theorem r_bad {R : LV} {i : Int} (h0 : 0 ≤ i) (hl : i < (R.length : Int)) (hf : firstP (stopP R) i.toNat = i.toNat) (hb : badP R i.toNat = true) : rdV R = 0 ∧ rdN R = 0 ∧ rdE R = 111 := by
 have ha := at_is h0 hl hf (by rw [stopP, hb]; rfl)
 have e : okR R = false := by simp [okR, ha, hb]
 refine ⟨?_, ?_, ?_⟩
 ·rw [rdV, e]; rfl
 ·rw [rdN, e]; rfl
 ·rw [rdE, e, if_neg (by decide), if_pos (by rw [ha]; omega)]
theorem r_ok {R : LV} {i : Int} (h0 : 0 ≤ i) (hl : i < (R.length : Int)) (hf : firstP (stopP R) i.toNat = i.toNat) (hb : badP R i.toNat = false) (hs : clampK .u8 (intV (celV R i 0)) < 128) : rdV R = valI R (i + 1).toNat ∧ rdN R = i + 1 ∧ rdE R = 0 := by
 rw [b_z h0] at hs
 have ha := at_is h0 hl hf (by rw [stopP, hb]; simp [hs])
 have e : okR R = true := by simp [okR, ha, hb]; omega
 refine ⟨?_, ?_, ?_⟩
 ·rw [rdV, e, ha, if_pos rfl, show (i + 1).toNat = i.toNat + 1 by omega]
 ·rw [rdN, e, ha, if_pos rfl]; omega
 ·rw [rdE, e, if_pos rfl]
theorem val_in {R : LV} {i : Int} (h0 : 0 ≤ i) (hf : firstP (stopP R) i.toNat = i.toNat) (hb : badP R i.toNat = false) : clampK .u64 (valI R (i + 1).toNat) = valI R (i + 1).toNat := by
 have h := val_top hf hb
 have h2 := (val_rng R (i.toNat + 1)).1
 rw [show (i + 1).toNat = i.toNat + 1 by omega]
 exact u64_in ⟨h2, h⟩
end Go.Proofs.Ythenenacmiiphaa.oct
