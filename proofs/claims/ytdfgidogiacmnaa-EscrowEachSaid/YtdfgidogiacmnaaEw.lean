/- Layer escrow: what is gone over. No condition. -/
import Derived.Test.YtdfgidogiacmnaaEc
set_option linter.unusedVariables false
set_option linter.unusedSimpArgs false
set_option linter.deprecated false
namespace Go.Proofs.Ytdfgidogiacmnaa.esc
open Go Go.Proofs.Ytdfgidogiacmnaa.Sx
theorem out_at (R : LV) (v f ver : Int) : ∀ (n i : Nat), i < n → (outE R v f ver n).getD i [] = [.int .i64 (sumN R v (i + 1)), .int .i64 f, .int .u64 (ver + ((i + 1 : Nat) : Int))]
  | 0, i, h => by omega
  | n + 1, i, h => by
    unfold outE
    by_cases e : i = n
    · subst e
      rw [List.getD_eq_getElem?_getD, List.getElem?_append_right (by rw [out_len]; exact Nat.le_refl _), out_len]
      simp
    · rw [← out_at R v f ver n i (by omega), List.getD_eq_getElem?_getD, List.getD_eq_getElem?_getD, List.getElem?_append_left (by rw [out_len]; omega)]
theorem stop_ge {R : LV} {v f ver : Int} {n : Nat} (hn : n ≤ R.length) (h : firstP (badI R v f ver) n = n) : n ≤ stopE R v f ver := by
  refine Nat.not_lt.1 fun hh => ?_
  have h1 : badI R v f ver (stopE R v f ver) = true := first_at (n := R.length) (by unfold stopE at hh; omega)
  have h2 : badI R v f ver (stopE R v f ver) = false := first_lt (n := n) (by omega)
  rw [h1] at h2; cases h2
theorem stop_in {ρ : Rho} (ok : ρ.Ok) (v f ver : Int) : clampK .i64 ((stopE (ρ.z.rl 0) v f ver : Nat) : Int) = ((stopE (ρ.z.rl 0) v f ver : Nat) : Int) := by
  have h := stop_le (ρ.z.rl 0) v f ver
  have h2 := ok.rl 0
  exact clamp_id ⟨by show (-9223372036854775808 : Int) ≤ _; omega, by show _ ≤ (9223372036854775807 : Int); omega⟩
theorem u64w (n : Int) : IntKind.wrap .u64 n = n % 18446744073709551616 := by simp [IntKind.wrap, IntKind.bits, IntKind.signed]
theorem i64w (n : Int) : IntKind.wrap .i64 n = (n + 9223372036854775808) % 18446744073709551616 - 9223372036854775808 := by
  simp only [IntKind.wrap, IntKind.bits, IntKind.signed]
  try simp
  try omega
theorem clamp_rng (n : Int) : (-9223372036854775808 : Int) ≤ clampK .i64 n ∧ clampK .i64 n ≤ (9223372036854775807 : Int) := by
  unfold clampK
  split
  · rename_i h; exact h
  · omega
/-- Gone over so far. -/
def At (R : LV) (v f ver x w i : Int) : Prop := Mid R v f ver x w (outE R v f ver i.toNat) i.toNat
theorem at_0 (R : LV) (v f ver : Int) : At R v f ver v ver 0 := mid_0 R v f ver
structure Row (R : LV) (v f ver x w i b : Int) : Prop where
  nxt : At R v f ver (x + b) (w + 1) (i + 1)
  lt : i + 1 ≤ (stopE R v f ver : Int)
  c0 : clampK .i64 (intV (celV (outE R v f ver (stopE R v f ver)) i 0)) = x + b
  c1 : clampK .i64 (intV (celV (outE R v f ver (stopE R v f ver)) i 1)) = f
  c2 : clampK .u64 (intV (celV (outE R v f ver (stopE R v f ver)) i 2)) = w + 1
theorem at_row {R : LV} {v f ver x w i : Int} (h0 : 0 ≤ i) (hl : i < (R.length : Int)) (m : At R v f ver x w i) (hf : -9223372036854775808 ≤ f ∧ f ≤ 9223372036854775807) (hx : x ≤ 9223372036854775807) (hw : 0 ≤ w)
    (h : errN x f w (clampK .i64 (intV (celV R i 0))) = 0) : Row R v f ver x w i (clampK .i64 (intV (celV R i 0))) := by
  have s := mid_s h0 m h
  have e1 : (i + 1).toNat = i.toNat + 1 := by omega
  have g := stop_ge (R := R) (v := v) (f := f) (ver := ver) (n := (i + 1).toNat) (by omega) s.run
  have hc := out_at R v f ver (stopE R v f ver) i.toNat (by omega)
  have k := err_cases x f w (clampK .i64 (intV (celV R i 0)))
  have sv := s.val
  have sw := s.vr
  rw [e1] at sv sw
  refine ⟨⟨s.run, s.val, s.vr, rfl⟩, by omega, ?_, ?_, ?_⟩
  · have : celV (outE R v f ver (stopE R v f ver)) i 0 = .int .i64 (sumN R v (i.toNat + 1)) := by unfold celV; rw [hc]; rfl
    rw [this, ← sv]
    exact clamp_id ⟨by show (-9223372036854775808 : Int) ≤ x + _; omega, by show x + _ ≤ (9223372036854775807 : Int); omega⟩
  · have : celV (outE R v f ver (stopE R v f ver)) i 1 = .int .i64 f := by unfold celV; rw [hc]; rfl
    rw [this]
    exact clamp_id ⟨by show (-9223372036854775808 : Int) ≤ f; omega, by show f ≤ (9223372036854775807 : Int); omega⟩
  · have : celV (outE R v f ver (stopE R v f ver)) i 2 = .int .u64 (ver + ((i.toNat + 1 : Nat) : Int)) := by unfold celV; rw [hc]; rfl
    rw [this, ← sw]
    exact clamp_id ⟨by show (0 : Int) ≤ w + 1; omega, by show w + 1 ≤ (18446744073709551615 : Int); omega⟩
theorem at_stop {R : LV} {v f ver x w i : Int} (h0 : 0 ≤ i) (hl : i < (R.length : Int)) (m : At R v f ver x w i) (h : ¬ errN x f w (clampK .i64 (intV (celV R i 0))) = 0) : (stopE R v f ver : Int) = i := by
  have := mid_stop h0 hl m h
  omega
theorem at_end {R : LV} {v f ver x w i : Int} (hl : (R.length : Int) ≤ i) (h1 : i ≤ (R.length : Int)) (m : At R v f ver x w i) : (stopE R v f ver : Int) = (R.length : Int) := by
  have := mid_end hl h1 m
  omega
theorem at_eq {R : LV} {v f ver x w i x' w' i' : Int} (m : At R v f ver x w i) (h1 : x' = x) (h2 : w' = w) (h3 : i' = i) : At R v f ver x' w' i' := by subst h1 h2 h3; exact m
end Go.Proofs.Ytdfgidogiacmnaa.esc
