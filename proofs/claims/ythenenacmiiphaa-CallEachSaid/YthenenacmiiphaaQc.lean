/- Layer octet: numbers' bytes. No condition. -/
import Derived.Test.YthenenacmiiphaaQb
set_option linter.unusedVariables false
set_option linter.unusedSimpArgs false
set_option linter.deprecated false
namespace Go.Proofs.Ythenenacmiiphaa.oct
open Go Go.Proofs.Ythenenacmiiphaa.Sx
theorem numF_len : ∀ f n, 1 ≤ (numF f n).length ∧ (numF f n).length ≤ f + 1
 | 0, n => ⟨Nat.le_refl _, Nat.le_refl _⟩
 | f + 1, n => by
  have := numF_len f (n / 128)
  unfold numF; split
  ·simp
  ·simp only [List.length_cons]; omega
theorem num_len (n : Int) : 1 ≤ (numL n).length ∧ (numL n).length ≤ 10 := by
 have := numF_len 9 n
 simp only [numL, rowB, List.length_map]; omega
theorem numF_byte (q : Nat → Int) (q0 : q 0 = 1) (qs : ∀ f, q (f + 1) = q f * 128) (f : Nat) : ∀ n : Int, 0 ≤ n → n < q f * 256 → ∀ b ∈ numF f n, 0 ≤ b ∧ b ≤ 255 := by
  induction f with
  | zero =>
    intro n h0 h1 b hb
    simp only [numF, List.mem_singleton] at hb
    subst hb
    rw [q0] at h1
    omega
  | succ f ih =>
    intro n h0 h1 b hb
    unfold numF at hb
    split at hb
    · simp only [List.mem_singleton] at hb; subst hb; omega
    · rcases List.mem_cons.1 hb with rfl | hb
      · omega
      · rw [qs] at h1
        exact ih (n / 128) (by omega) (by omega) b hb
theorem typed_rowB {l : List Int} (h : ∀ b ∈ l, 0 ≤ b ∧ b ≤ 255) : Typed byteK (rowB l) := fun e he => by
 obtain ⟨b, hb, rfl⟩ := List.mem_map.1 he
 obtain ⟨h0, h1⟩ := h b hb
 have e1 : ileb (kmin .u8) b = true := (ileb_iff _ _).2 (by show (0 : Int) ≤ b; exact h0)
 have e2 : ileb b (kmax .u8) = true := (ileb_iff _ _).2 (by show b ≤ (255 : Int); exact h1)
 show conf [.int .u8] [Value.int .u8 b] = true
 simp [conf, conf1, keq_iff, e1, e2]
theorem num_typed {n : Int} (h : 0 ≤ n ∧ n ≤ 18446744073709551615) : Typed byteK (numL n) := by
 refine typed_rowB (numF_byte (fun f => 128 ^ f) (by decide) (fun f => Int.pow_succ _ _) 9 n h.1 ?_)
 show n < 128 ^ 9 * 256
 have e : (128 : Int) ^ 9 * 256 = 2361183241434822606848 := by decide
 omega
theorem txt_typed (L : LV) : Typed byteK (txtL L) := by
 unfold txtL
 split
 ·rename_i h
  split
  ·exact fun e he => h e (List.mem_of_mem_drop (List.mem_of_mem_take he))
  ·exact Typed.nil _
 ·exact Typed.nil _
theorem app_typed {ks : List CK} {a b : LV} (h : Typed ks a) (h2 : Typed ks b) : Typed ks (a ++ b) := fun e he => (List.mem_append.1 he).elim (h e) (h2 e)
theorem cat_typed (l : LV) : ∀ k, Typed byteK (catB l k)
 | 0 => num_typed (clamp_rng .u64 _)
 | k + 1 => app_typed (cat_typed l k) (app_typed (num_typed (clamp_rng .u64 _)) (strV_typed _))
theorem numC_typed (n : Int) : Typed byteK (numC n) := num_typed (clamp_rng .u64 _)
theorem askL_typed (k lo m p t sl u b : Int) : Typed byteK (askL k lo m p t sl u b) := by
 unfold askL
 refine app_typed (app_typed (numC_typed _) (numC_typed _)) ?_
 split
 ·exact app_typed (app_typed (numC_typed _) (numC_typed _)) (numC_typed _)
 ·split
  ·exact app_typed (numC_typed _) (numC_typed _)
  ·split
   ·exact app_typed (app_typed (numC_typed _) (numC_typed _)) (numC_typed _)
   ·exact app_typed (numC_typed _) (numC_typed _)
theorem ansL_typed (e sl u st v : Int) : Typed byteK (ansL e sl u st v) :=
 app_typed (app_typed (app_typed (app_typed (numC_typed _) (numC_typed _)) (numC_typed _)) (numC_typed _)) (numC_typed _)
theorem odd_ok : OddOk Φ := fun n a h => by
 show Typed byteK (fl n a)
 unfold fl; split
 ·exact askL_typed _ _ _ _ _ _ _ _
 ·exact ansL_typed _ _ _ _ _
 ·exact num_typed (clamp_rng .u64 _)
 ·exact txt_typed _
 ·exact absurd h (by decide)
 ·exact cat_typed _ _
 ·exact Typed.nil _
theorem u64_rng {ρ : Rho} (hρ : ρ.Ok) (n : Nat) : 0 ≤ ρ.i .u64 n ∧ ρ.i .u64 n ≤ 18446744073709551615 := ⟨hρ.lo .u64 n, hρ.hi .u64 n⟩
theorem i64_rng {ρ : Rho} (hρ : ρ.Ok) (n : Nat) : -9223372036854775808 ≤ ρ.i .i64 n ∧ ρ.i .i64 n ≤ 9223372036854775807 := ⟨hρ.lo .i64 n, hρ.hi .i64 n⟩
theorem numF_low {f : Nat} {n : Int} (h : n < 128) : numF (f + 1) n = [n] := by rw [numF, if_pos h]
theorem numF_up {f : Nat} {n : Int} (h : ¬ n < 128) : numF (f + 1) n = (128 + n % 128) :: numF f (n / 128) := by rw [numF, if_neg h]
theorem post_num {ρ : Rho} (hF : ρ.z.F = Φ) (x : IE) : Holds ρ (postN x) := by
 have := num_len (clampK .u64 (x.den ρ))
 show Holds ρ [_, _]
 simp only [h_nil, h_cons, d_le, IE.den, LE.den, AL.den, numE, lenV, hF, pl1, and_true]
 omega
theorem post_number : PostOk Φ cNumber := fun ρ hF _ => post_num hF _
theorem post_signed : PostOk Φ cSigned := fun ρ hF _ => post_num hF _
theorem post_rnumber : PostOk Φ cRNumber := fun ρ hF _ => post_num hF _
theorem post_rsigned : PostOk Φ cRSigned := fun ρ hF _ => post_num hF _
theorem rdN_rng (L : LV) : 0 ≤ rdN L ∧ rdN L ≤ (L.length : Int) ∧ rdN L ≤ 10 := by
 have h := first_le (stopP L) L.length
 have h9 : okR L = true → atR L ≤ 9 := fun _ => by
  refine run9 (L := L) ?_
  exact first_none fun i hi => first_lt hi
 unfold rdN
 split
 ·rename_i hk
  have h2 := hk
  simp only [okR, Bool.and_eq_true, decide_eq_true_eq] at h2
  have := h9 hk
  omega
 ·omega
theorem post_rd {ρ : Rho} (hF : ρ.z.F = Φ) : Holds ρ postR := by
 have := rdN_rng (ρ.z.rl 0)
 show Holds ρ [_, _]
 simp only [h_nil, h_cons, d_le, IE.den, LE.den, AL.den, rdNE, rdA, ln, lenV, hF, pi4, and_true]
 rw [clampS (by omega) (by omega)]
 omega
theorem post_read : PostOk Φ cRead := fun ρ hF _ => post_rd hF
theorem post_rread : PostOk Φ cRRead := fun ρ hF _ => post_rd hF
theorem post_sread : PostOk Φ cSRead := fun ρ hF _ => post_rd hF
theorem post_rsread : PostOk Φ cRSRead := fun ρ hF _ => post_rd hF
end Go.Proofs.Ythenenacmiiphaa.oct
