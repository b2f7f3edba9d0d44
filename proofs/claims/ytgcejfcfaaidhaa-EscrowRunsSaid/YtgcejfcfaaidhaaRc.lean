/- The law EscrowRuns returns true at every counter and list of changes, and leaves them as they were. No condition. -/
import Derived.Test.YtgcejfcfaaidhaaRb
set_option linter.unusedSimpArgs false
set_option linter.unusedVariables false
namespace Go.Proofs.Ytgcejfcfaaidhaa.runs
open Go.ChangeShapes Go.WideShapes Go.ChangeAt Go.RowKit Go.Joins
open Go.Proofs.Ytgcejfcfaaidhaa.refs Go.Proofs.Ytgcejfcfaaidhaa.changes Go.Proofs.Ytgcejfcfaaidhaa.holds

set_option maxHeartbeats 1000000 in
theorem walk_long (v f n : Int) (len cap : Nat) (ao : Option Addr) (w : World) (hl : 50 < (len : Int)) :
    Calls Try.prog 5 #[.agg #[.int .i64 v, .int .i64 f, .int .u64 n], .slice ao len cap] w fun e w' => e = .returned (.bool true) ∧ w.grownBy w' none := by
  go_enter Try.func5, Try.ntmps5
  go_wp2_with (go_at_call 17; refine (works_any _).mono ?_; rintro e w6 ⟨rfl, hg⟩)
  go_ret
  exact ⟨rfl, gtrans (galloc (World.grownBy.refl _ _) _) hg⟩

theorem walk (v f n : Int) (sb so len cap : Nat) (ao : Option Addr) (zs : List Int) (w : World) (hB : Bd v f n)
    (hlen : zs.length = len) (hsb : sb < w.heap.size ∨ zs = []) (hno : ao = none → len = 0 ∧ cap = 0)
    (hz : ∀ j, j < zs.length → ao = some ⟨sb, so, none⟩ ∧ w.cell? ⟨sb, so + j, none⟩ = some (.int .i64 (zs.getD j 0)) ∧ -9223372036854775808 ≤ zs.getD j 0 ∧ zs.getD j 0 ≤ 9223372036854775807) :
    Calls Try.prog 5 #[.agg #[.int .i64 v, .int .i64 f, .int .u64 n], .slice ao len cap] w fun e w' => e = .returned (.bool true) ∧ w.grownBy w' none := by
  by_cases hl : 50 < (len : Int)
  · exact walk_long v f n len cap ao w hl
  subst hlen
  cases hr : rightB v f n
  · exact walk_bad v f n sb so cap ao zs w hB (by omega) hno hz hr
  · exact walk_good v f n sb so cap ao zs w hB (by omega) hno hz hr hsb

theorem Try.cells2 : Try.prog.cellsOf 2 = 1 := by kernel_rfl

set_option maxRecDepth 100000 in
theorem lifted (os : Os) (started : os.Started) (H : Type) (enc : TypeId × Value → H) :
    ReturnsInHanded {} Try.checked os 5 .any (Rows.escrowRunsSpec.pre6 enc Try.prog Try.f5 Rows.escrowRunsRow.domain false) (Rows.escrowRunsSpec.post enc Try.prog Try.f5 false true false false) := by
  refine returnsInHanded_of_change (C := Try.checked) own started (by kernel_rfl) Try.func5
    (ChangeSpec.witness6 (enc := enc) (C := Try.checked) false ⟨#[], #[.agg #[.int .i64 0, .int .i64 0, .int .u64 0], .slice none 0 0], []⟩ 8 (by kernel_rfl) (by kernel_rfl) (by kernel_rfl) (by kernel_rfl)) ?_
  intro W base args ds gs before hval0 hW hcnd _
  have hval : ∀ (j : Nat) t v, Try.f5.params[j]? = some t → args[j]? = some v → Value.okWide Try.prog W .any base t v := hval0
  have hW' := hW
  obtain ⟨p, q, hA0, hV, rfl, hfz, hnd⟩ := hW
  obtain ⟨rfl, rfl⟩ := trodVars_none hV
  rw [List.append_nil] at hW'
  have hA : DataW.TrodAll enc Try.prog W 0 (fun _ => true) true Try.f5.params.toList args.toList ds p := hA0
  have hAk := hA
  rw [Try.params5] at hA hval
  obtain ⟨v0, vs0, d0, ds0, p0, q0, hargs, rfl, rfl, h0, r0⟩ := trodAll_cons hA
  obtain ⟨v2, vs2, d2, ds2, p2, q2, rfl, rfl, rfl, h2, r2⟩ := trodAll_cons r0
  obtain ⟨rfl, rfl, rfl⟩ := trodAll_nil r2
  obtain rfl : args = #[v0, v2] := by cases args; simp_all
  obtain ⟨x, f, n, rfl, rfl, rfl, wx, wf, wn⟩ := open_counter (hval 0 24 v0 rfl rfl) h0
  obtain ⟨ao, len, cap, rfl⟩ := okWide_slice Try.underlying38 (hval 1 38 v2 rfl rfl)
  obtain ⟨sb, so, zs, hlen, hsb, hno, hz⟩ : ∃ sb so : Nat, ∃ zs : List Int, zs.length = len ∧ (sb < W.heap.size ∨ zs = []) ∧ (ao = none → len = 0 ∧ cap = 0) ∧ (∀ j, j < zs.length → ao = some ⟨sb, so, none⟩ ∧ W.cell? ⟨sb, so + j, none⟩ = some (.int .i64 (zs.getD j 0)) ∧ -9223372036854775808 ≤ zs.getD j 0 ∧ zs.getD j 0 ≤ 9223372036854775807) := by
    obtain ⟨fuel, hf⟩ := h2
    rcases open_ints Try.underlying38 Try.underlying2 Try.cells2 hf with ⟨hcs, hx⟩ | ⟨a, len', cap', zs, hcs, _, hl, hm, hzl, hx, hcell, hwz⟩
    · have hcs : [Value.slice ao len cap] = _ := hcs
      simp only [List.cons.injEq, Value.slice.injEq, and_true] at hcs
      obtain ⟨rfl, rfl, rfl⟩ := hcs
      exact ⟨0, 0, [], rfl, .inr rfl, fun _ => ⟨rfl, rfl⟩, fun j hj => absurd hj (by simp)⟩
    · have hcs : [Value.slice ao len cap] = _ := hcs
      simp only [List.cons.injEq, Value.slice.injEq, and_true] at hcs
      obtain ⟨rfl, rfl, rfl⟩ := hcs
      simp only [if_true] at hzl
      by_cases hp : 0 < zs.length
      · obtain ⟨b, off, rfl, hc⟩ := ints_at hcell hp
        refine ⟨b, off, zs.take len, by rw [List.length_take]; omega, .inl (World.block_lt_of_cell? W _ (hc 0 hp)), fun h => (by simp at h), fun j hj => ?_⟩
        have hj' : j < zs.length := by rw [List.length_take] at hj; omega
        have hg : (zs.take len).getD j 0 = zs.getD j 0 := by
          rw [List.length_take] at hj
          rw [List.getD_eq_getElem?_getD, List.getD_eq_getElem?_getD, List.getElem?_take_of_lt (by omega)]
        rw [hg]
        have hm : zs.getD j 0 ∈ zs := by
          rw [List.getD_eq_getElem?_getD, List.getElem?_eq_getElem hj']
          exact List.getElem_mem hj'
        exact ⟨rfl, hc j hj', (bounds_i64 (hwz _ hm)).1, by have := (bounds_i64 (hwz _ hm)).2; omega⟩
      · have : zs = [] := List.eq_nil_of_length_eq_zero (by omega)
        subst this
        exact ⟨0, 0, [], by simp at hzl ⊢; omega, .inr rfl, fun h => (by simp at h), fun j hj => absurd hj (by simp)⟩
  refine (walk x f n sb so len cap ao zs W (bd_of wx wf wn) hlen hsb hno hz).mono fun e W' ⟨he, hg⟩ => ?_
  subst he
  exact ⟨_, rfl, law_post (by kernel_rfl) (by kernel_rfl) rfl Try.underlying4 rfl hW' hAk rfl (gbelow hg (by simp))⟩

theorem proved : Rows.EscrowRunsSaid :=
  OpenClaim.holds_of_wide 5 Try.f5 rfl rfl rfl rfl rfl rfl rfl ⟨rfl, rfl, rfl, rfl, rfl⟩ rfl rfl rfl rfl rfl (by kernel_rfl) Try.func5 (by kernel_rfl)
    (of_decide_eq_true (by kernel_rfl)) (by unfold Func.isWrapper; first | (rw [if_pos (by decide +kernel)]; kernel_rfl) | (rw [if_neg (by decide +kernel)]; exact ⟨rfl, rfl⟩))
    (fun os started H enc _ => lifted os started H enc)
end Go.Proofs.Ytgcejfcfaaidhaa.runs
