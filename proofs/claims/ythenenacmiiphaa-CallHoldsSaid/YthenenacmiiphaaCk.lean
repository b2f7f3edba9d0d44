/- Layer call: no ask's bytes begin another one's. No condition. -/
import Derived.Test.YthenenacmiiphaaCi
import Derived.Test.YthenenacmiiphaaQl
set_option linter.unusedVariables false
set_option linter.unusedSimpArgs false
set_option linter.deprecated false
namespace Go.Proofs.Ythenenacmiiphaa.oct
open Go Go.Proofs.Ythenenacmiiphaa.Sx
theorem cl64 (x : Int) : 0 ≤ clampK .u64 x ∧ clampK .u64 x ≤ 18446744073709551615 := by
 have := clamp_rng .u64 x
 exact this
theorem numC_pre {a b : Int} {r s : LV} (h : numC a ++ r = numC b ++ s) : clampK .u64 a = clampK .u64 b ∧ r = s := by
 unfold numC at h
 have ra := cl64 a
 have rb := cl64 b
 have e : clampK .u64 a = clampK .u64 b := by
  have h1 := (read_back ra.1 ra.2 r).1
  have h2 := (read_back rb.1 rb.2 s).1
  rw [h] at h1
  exact h1.symm.trans h2
 refine ⟨e, ?_⟩
 rw [e] at h
 exact List.append_cancel_left h
theorem tw_pre {a b : Int} (ha : -9223372036854775808 ≤ a ∧ a ≤ 9223372036854775807) (hb : -9223372036854775808 ≤ b ∧ b ≤ 9223372036854775807) (h : clampK .u64 (twiceN a) = clampK .u64 (twiceN b)) : a = b := by
 rw [tw_rng ha, tw_rng hb] at h
 exact twice_inj h
theorem ask_pre {n l s k lo m p t sl u b k' lo' m' p' t' sl' u' b' : Int} (ha : askR n l s k lo m p t sl u b = true) (hb : askR n l s k' lo' m' p' t' sl' u' b' = true)
  (r1 : -9223372036854775808 ≤ b ∧ b ≤ 9223372036854775807) (r2 : -9223372036854775808 ≤ b' ∧ b' ≤ 9223372036854775807) {R S : LV} (h : askL k lo m p t sl u b ++ R = askL k' lo' m' p' t' sl' u' b' ++ S) :
  k = k' ∧ lo = lo' ∧ m = m' ∧ p = p' ∧ t = t' ∧ sl = sl' ∧ u = u' ∧ b = b' := by
 obtain ⟨q0, a1, a2, a3, a4, a5, a6⟩ := ask_b ha
 obtain ⟨_, b1, b2, b3, b4, b5, b6⟩ := ask_b hb
 obtain ⟨s1, s2, s3⟩ := shp_b q0
 have c : ∀ {x y : Int}, 0 ≤ x ∧ x ≤ 1099511627776 → 0 ≤ y ∧ y ≤ 1099511627776 → clampK .u64 x = clampK .u64 y → x = y := fun h1 h2 h => by
  rwa [u64_in (by omega), u64_in (by omega)] at h
 unfold askL at h
 simp only [List.append_assoc] at h
 obtain ⟨e1, h1⟩ := numC_pre h
 obtain ⟨e2, h2⟩ := numC_pre h1
 clear h h1
 have h := h2
 clear h2
 have e1 := c (by omega) (by omega) e1
 have e2 := c (by omega) (by omega) e2
 subst e1
 subst e2
 by_cases k1 : k = 1
 ·have a5 := a5 (by omega)
  have b5 := b5 (by omega)
  rw [if_pos k1, if_pos k1] at h
  simp only [List.append_assoc] at h
  obtain ⟨e3, h⟩ := numC_pre h
  obtain ⟨e4, h⟩ := numC_pre h
  obtain ⟨e5, h⟩ := numC_pre h
  have e3 := c (by omega) (by omega) e3
  have e4 := c (by omega) (by omega) e4
  have e5 := c (by omega) (by omega) e5
  omega
 ·rw [if_neg k1, if_neg k1] at h
  by_cases k2 : k = 2
  ·have a5 := a5 (by omega)
   have b5 := b5 (by omega)
   rw [if_pos k2, if_pos k2] at h
   simp only [List.append_assoc] at h
   obtain ⟨e3, h⟩ := numC_pre h
   obtain ⟨e4, h⟩ := numC_pre h
   have e3 := c (by omega) (by omega) e3
   have e4 := c (by omega) (by omega) e4
   omega
  ·have a6 := a6 (by omega)
   have b6 := b6 (by omega)
   rw [if_neg k2, if_neg k2] at h
   by_cases k7 : k = 7
   ·rw [if_pos k7, if_pos k7] at h
    simp only [List.append_assoc] at h
    obtain ⟨e3, h⟩ := numC_pre h
    obtain ⟨e4, h⟩ := numC_pre h
    obtain ⟨e5, h⟩ := numC_pre h
    have e3 := c (by omega) (by omega) e3
    have e4 := c (by omega) (by omega) e4
    have e5 := tw_pre r1 r2 e5
    omega
   ·rw [if_neg k7, if_neg k7] at h
    simp only [List.append_assoc] at h
    obtain ⟨e3, h⟩ := numC_pre h
    obtain ⟨e4, h⟩ := numC_pre h
    have e3 := c (by omega) (by omega) e3
    have e4 := c (by omega) (by omega) e4
    omega
theorem ans_pre {n l s e sl u st v e' sl' u' st' v' : Int} (ha : ansR n l s e sl u st = true) (hb : ansR n l s e' sl' u' st' = true)
  (r1 : -9223372036854775808 ≤ v ∧ v ≤ 9223372036854775807) (r2 : -9223372036854775808 ≤ v' ∧ v' ≤ 9223372036854775807) {R S : LV} (h : ansL e sl u st v ++ R = ansL e' sl' u' st' v' ++ S) :
  e = e' ∧ sl = sl' ∧ u = u' ∧ st = st' ∧ v = v' := by
 obtain ⟨q0, a1, a2, a3, a4, a5⟩ := ans_b ha
 obtain ⟨_, b1, b2, b3, b4, b5⟩ := ans_b hb
 obtain ⟨s1, s2, s3⟩ := shp_b q0
 have c : ∀ {x y : Int}, 0 ≤ x ∧ x ≤ 1099511627776 → 0 ≤ y ∧ y ≤ 1099511627776 → clampK .u64 x = clampK .u64 y → x = y := fun h1 h2 h => by
  rwa [u64_in (by omega), u64_in (by omega)] at h
 unfold ansL at h
 simp only [List.append_assoc] at h
 obtain ⟨e1, h⟩ := numC_pre h
 obtain ⟨e2, h⟩ := numC_pre h
 obtain ⟨e3, h⟩ := numC_pre h
 obtain ⟨e4, h⟩ := numC_pre h
 obtain ⟨e5, h⟩ := numC_pre h
 have e1 := c (by omega) (by omega) e1
 have e2 := c (by omega) (by omega) e2
 have e3 := c (by omega) (by omega) e3
 have e4 := c (by omega) (by omega) e4
 have e5 := tw_pre r1 r2 e5
 omega
theorem beg_ex {L M : LV} (h : begB L M = true) : ∃ R S : LV, L ++ R = M ++ S := by
 unfold begB at h
 split at h
 ·have e : L = M.take L.length := by
   by_cases e : L = M.take L.length
   ·exact e
   ·rw [eqV_f e] at h; cases h
  refine ⟨M.drop L.length, [], ?_⟩
  rw [List.append_nil]
  conv => lhs; lhs; rw [e]
  exact List.take_append_drop ..
 ·have e : L.take M.length = M := by
   by_cases e : L.take M.length = M
   ·exact e
   ·rw [eqV_f e] at h; cases h
  refine ⟨[], L.drop M.length, ?_⟩
  rw [List.append_nil]
  conv => rhs; lhs; rw [← e]
  exact (List.take_append_drop ..).symm
theorem beg_self (L : LV) : begB L L = true := by
 unfold begB
 rw [if_pos (Nat.le_refl _)]
 exact eqV_t (List.take_length).symm
end Go.Proofs.Ythenenacmiiphaa.oct
