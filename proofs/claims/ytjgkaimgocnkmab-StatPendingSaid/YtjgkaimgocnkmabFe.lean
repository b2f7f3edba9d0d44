/- Layer stat: lists that are the same; sites. No condition. -/
import Derived.Test.YtjgkaimgocnkmabFb
set_option linter.unusedVariables false
set_option linter.unusedSimpArgs false
set_option linter.deprecated false
namespace Go.Proofs.Ytjgkaimgocnkmab.stat
open Go Go.Proofs.Ytjgkaimgocnkmab.Sx
theorem clamp_id {k : IntKind} {n : Int} (h : kmin k ≤ n ∧ n ≤ kmax k) : clampK k n = n := by unfold clampK; rw [if_pos h]
theorem stat_conf {e : List Value} (h : conf [.int .i64, .bool, .int .i64, .int .i64] e = true) : ∃ a b c d, e = [.int .i64 a, .bool b, .int .i64 c, .int .i64 d] ∧ (kmin .i64 ≤ a ∧ a ≤ kmax .i64) ∧ (kmin .i64 ≤ c ∧ c ≤ kmax .i64) ∧ (kmin .i64 ≤ d ∧ d ≤ kmax .i64) := by
  have key : ∀ {v : Value}, conf1 (.int .i64) v = true → ∃ n, v = .int .i64 n ∧ kmin .i64 ≤ n ∧ n ≤ kmax .i64 := by
    intro v hv
    obtain ⟨e, h1⟩ := conf1_int hv
    rw [clamp_id h1] at e
    exact ⟨_, e, h1⟩
  match e, h with
  | [v1, v2, v3, v4], h =>
    simp only [conf] at h
    obtain ⟨h1, h2⟩ := ifb h
    obtain ⟨h3, h4⟩ := ifb h2
    obtain ⟨h5, h6⟩ := ifb h4
    obtain ⟨h7, _⟩ := ifb h6
    obtain ⟨a, rfl, ha⟩ := key h1
    obtain ⟨c, rfl, hc⟩ := key h5
    obtain ⟨d, rfl, hd⟩ := key h7
    cases v2 <;> simp [conf1] at h3
    exact ⟨a, _, c, d, rfl, ha, hc, hd⟩
  | [], h => simp [conf] at h
  | [_], h => simp [conf] at h
  | [_, _], h => simp [conf] at h
  | [_, _, _], h => simp [conf] at h
  | _ :: _ :: _ :: _ :: _ :: _, h => simp [conf] at h
theorem stat_at {l : LV} (h : Typed [.int .i64, .bool, .int .i64, .int .i64] l) {i : Int} (h0 : 0 ≤ i) (hn : i < (l.length : Int)) : l[i.toNat]? = some [.int .i64 (clampK .i64 (intV (celV l i 0))), .bool (boolV (celV l i 1)), .int .i64 (clampK .i64 (intV (celV l i 2))), .int .i64 (clampK .i64 (intV (celV l i 3)))] := by
  have hl : i.toNat < l.length := by omega
  obtain ⟨a, b, c, d, he, ha, hc, hd⟩ := stat_conf (h _ (List.getElem_mem hl))
  have hg : l.getD i.toNat [] = l[i.toNat] := by rw [List.getD_eq_getElem?_getD, List.getElem?_eq_getElem hl]; rfl
  have c0 : celV l i 0 = .int .i64 a := by unfold celV; rw [hg, he]; rfl
  have c1 : celV l i 1 = .bool b := by unfold celV; rw [hg, he]; rfl
  have c2 : celV l i 2 = .int .i64 c := by unfold celV; rw [hg, he]; rfl
  have c3 : celV l i 3 = .int .i64 d := by unfold celV; rw [hg, he]; rfl
  rw [List.getElem?_eq_getElem hl, he, c0, c1, c2, c3]
  simp only [intV, boolV, clamp_id ha, clamp_id hc, clamp_id hd]
theorem vcS0 : ∀ v ∈ vwS 0, VC (T Φ cSame.roms []) invS msF 0 (startF 20 cSame.pat [.lit true]) v := by
  refine all_cons ?_ (all_cons ?_ all_nil)
  · intro ρ kn hi hp
    refine ⟨rfl, ?_⟩
    show (ρ.z.rl 0).length - 0 < (ρ.z.rl 0).length + 1
    omega
  · intro ρ kn hi hp
    simp only [h_nil, h_cons, d_le, d_eq, d_not, d_var, d_lit, IE.den, LE.den, lenV] at hp
    refine all_cons ?_ all_nil
    show BE.den ρ _ = false
    refine Bool.eq_false_iff.2 fun hh => ?_
    rw [d_leq] at hh
    exact hp.1 (by rw [show ρ.z.rl 0 = ρ.z.rl 1 from hh])
theorem vcS1 : ∀ v ∈ vwS 1, VC (T Φ cSame.roms []) invS msF 1 tSame v := by
  repeat' first
    | exact all_nil
    | refine all_cons ?_ ?_
  all_goals
    intro ρ kn hi hp
    have hi' : (ρ.z.rl 0).take (ρ.i .i64 1001).toNat = (ρ.z.rl 1).take (ρ.i .i64 1001).toNat := hi
    simp only [h_nil, h_cons, d_le, d_eq, d_not, d_var, d_lit, d_cel, IE.den, LE.den, lenV] at hp
    first
      | refine all_cons ?_ all_nil
        show BE.den ρ _ = false
        refine Bool.eq_false_iff.2 fun hh => ?_
        rw [d_leq] at hh
        have hh' : ρ.z.rl 0 = ρ.z.rl 1 := hh
        rw [hh'] at hp
        obtain ⟨q1, q2, _⟩ := hp
        first
          | exact absurd rfl q1
          | exact q1 q2
          | exact q2 q1
      | refine all_cons ?_ all_nil
        show BE.den ρ _ = true
        rw [d_leq]
        show ρ.z.rl 0 = ρ.z.rl 1
        rw [List.take_of_length_le (by omega), List.take_of_length_le (by omega)] at hi'
        exact hi'
      | refine ⟨?_, ?_⟩
        · show (ρ.z.rl 0).take (ρ.i .i64 1001 + 1).toNat = (ρ.z.rl 1).take (ρ.i .i64 1001 + 1).toNat
          rw [show (ρ.i .i64 1001 + 1).toNat = (ρ.i .i64 1001).toNat + 1 by omega, List.take_add_one, List.take_add_one, hi']
          have t0 := stat_at (kn.rom 0 4 _ rfl) (i := ρ.i .i64 1001) (by omega) (by omega)
          have t1 := stat_at (kn.rom 1 4 _ rfl) (i := ρ.i .i64 1001) (by omega) (by omega)
          rw [t0, t1]
          simp_all
        · show (ρ.z.rl 0).length - (ρ.i .i64 1001 + 1).toNat < (ρ.z.rl 0).length - (ρ.i .i64 1001).toNat
          omega
theorem okS0 : cfgOk (startF 20 cSame.pat [.lit true]) = true := by kernel_rfl
theorem okS1 : cfgOk tSame = true := by kernel_rfl
theorem sgS0 : segL cSame.roms cSame (seg (T Φ cSame.roms []) selSame 400 tmSame (startF 20 cSame.pat [.lit true])) = (true, codesR tmSame (views (seg (T Φ cSame.roms []) selSame 400 tmSame (startF 20 cSame.pat [.lit true]))), vwS 0) := by kernel_rfl
theorem sgS1 : segL cSame.roms cSame (seg (T Φ cSame.roms []) selSame 400 tmSame tSame) = (true, codesR tmSame (views (seg (T Φ cSame.roms []) selSame 400 tmSame tSame)), vwS 1) := by kernel_rfl
theorem told_same : Sx.Told Φ cSame := by
  refine told_of (cs := []) all_nil (sel := selSame) 400 tmSame invS msF vwS 0 (pc0 := [.lit true]) (by kernel_rfl) (by kernel_rfl) (by kernel_rfl) (post_nil rfl) ?_ ?_ ?_ rfl (fun ρ _ _ => by simp [Holds, BE.den]) (fun _ _ _ _ => trivial)
  · intro k C h
    have := lk_mem h
    simp only [tmSame, List.mem_cons, Prod.mk.injEq, List.not_mem_nil, or_false] at this
    rcases this with ⟨rfl, rfl⟩ | ⟨rfl, rfl⟩
    · exact okS0
    · exact okS1
  · intro k C h
    have := lk_mem h
    simp only [tmSame, List.mem_cons, Prod.mk.injEq, List.not_mem_nil, or_false] at this
    rcases this with ⟨rfl, rfl⟩ | ⟨rfl, rfl⟩
    · exact sgS0
    · exact sgS1
  · intro k C h
    have := lk_mem h
    simp only [tmSame, List.mem_cons, Prod.mk.injEq, List.not_mem_nil, or_false] at this
    rcases this with ⟨rfl, rfl⟩ | ⟨rfl, rfl⟩
    · exact vcS0
    · exact vcS1
/- sites -/
theorem post_sites : PostOk Φ cSites1 := by
  intro ρ hF hp
  have h1 : (shapeF 1 2 3).den ρ = true := hp _ (List.mem_singleton.2 rfl)
  rw [shapeF_den hF, shapeN_iff] at h1
  obtain ⟨a1, a2, _, _, b1, b2⟩ := h1
  have m1 : (1 : Int) * 1 ≤ ρ.i .i64 1 * ρ.i .i64 3 := Int.mul_le_mul a1 b1 (by omega) (by omega)
  have m2 : ρ.i .i64 1 * ρ.i .i64 3 ≤ 64 * 4 := Int.mul_le_mul a2 b2 (by omega) (by omega)
  have hw : manyC.den ρ = ρ.i .i64 1 * ρ.i .i64 3 := by
    simp only [manyC, IE.den, xv]
    exact wrap_in .i64 _ (by show (-9223372036854775808 : Int) ≤ _; omega) (by show _ ≤ (9223372036854775807 : Int); omega)
  refine (fun p hp => ?_)
  simp only [cSites1, List.mem_cons, List.not_mem_nil, or_false] at hp
  rcases hp with rfl | rfl
  · rw [d_le, hw]; simp only [IE.den]; omega
  · rw [d_le, hw]; simp only [IE.den]; omega
theorem told_sites1 : Sx.Told Φ cSites1 := told_auto (cs := [cFrame]) (one_told told_frame) 4000 (by kernel_rfl) (by kernel_rfl) (by kernel_rfl) post_sites (by kernel_rfl) (by kernel_rfl)
theorem told_sites2 : Sx.Told Φ cSites2 := told_auto (cs := [cFrame]) (one_told told_frame) 4000 (by kernel_rfl) (by kernel_rfl) (by kernel_rfl) (post_nil rfl) (by kernel_rfl) (by kernel_rfl)
theorem told_rightL : Sx.Told Φ cRightL := told_auto (cs := [cFold]) (one_told told_fold) 4000 (by kernel_rfl) (by kernel_rfl) (by kernel_rfl) (post_nil rfl) (by kernel_rfl) (by kernel_rfl)
end Go.Proofs.Ytjgkaimgocnkmab.stat
