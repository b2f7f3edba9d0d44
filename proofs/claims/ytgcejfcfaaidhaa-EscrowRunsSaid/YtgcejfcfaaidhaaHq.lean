/- The law EscrowHolds returns true at every counter, number and list of changes, and leaves them as they were. No condition. -/
import Derived.Test.YtgcejfcfaaidhaaHo
set_option linter.unusedSimpArgs false
set_option linter.unusedVariables false
namespace Go.Proofs.Ytgcejfcfaaidhaa.holds
open Go.ChangeShapes Go.WideShapes Go.ChangeAt Go.RowKit Go.Joins

set_option maxHeartbeats 1000000 in
theorem walk_long (v f n k : Int) (len cap : Nat) (ao : Option Addr) (w : World) (hl : 30 < (len : Int)) :
    Calls Try.prog 7 #[.agg #[.int .i64 v, .int .i64 f, .int .u64 n], .int .i64 k, .slice ao len cap] w fun e w' => e = .returned (.bool true) ∧ w.grownBy w' none := by
  go_enter Try.func7, Try.ntmps7
  go_wp2_with (go_at_call 17; refine (works_any _).mono ?_; rintro e w6 ⟨rfl, hg⟩)
  go_ret
  exact ⟨rfl, gtrans (galloc (World.grownBy.refl _ _) _) hg⟩

theorem tells0 {fn : Nat} {v f n k E v' n' : Int} (h : Tells fn v f n k E v' n') (hE : E = 0) : ∀ W : World, Calls Try.prog fn #[.agg #[.int .i64 v, .int .i64 f, .int .u64 n], .int .i64 k] W fun e w' =>
    e = .returned (.tuple #[.agg #[.int .i64 v', .int .i64 f, .int .u64 n'], .int .i64 0]) ∧ W.grownBy w' none := by
  subst hE
  intro W
  simpa using h W
theorem tells1 {fn : Nat} {v f n k E v' n' : Int} (h : Tells fn v f n k E v' n') (hE : E ≠ 0) : ∀ W : World, Calls Try.prog fn #[.agg #[.int .i64 v, .int .i64 f, .int .u64 n], .int .i64 k] W fun e w' =>
    e = .returned (.tuple #[.agg #[.int .i64 0, .int .i64 0, .int .u64 0], .int .i64 E]) ∧ W.grownBy w' none := by
  intro W
  simpa [hE] using h W

theorem walk (v f n k : Int) (sb so len cap : Nat) (ao : Option Addr) (zs : List Int) (w : World) (hB : Bd v f n) (hk : -9223372036854775808 ≤ k) (hk' : k ≤ 9223372036854775807)
    (hlen : zs.length = len) (hsb : sb < w.heap.size ∨ zs = [])
    (hz : ∀ j, j < zs.length → ao = some ⟨sb, so, none⟩ ∧ w.cell? ⟨sb, so + j, none⟩ = some (.int .i64 (zs.getD j 0)) ∧ -9223372036854775808 ≤ zs.getD j 0 ∧ zs.getD j 0 ≤ 9223372036854775807) :
    Calls Try.prog 7 #[.agg #[.int .i64 v, .int .i64 f, .int .u64 n], .int .i64 k, .slice ao len cap] w fun e w' => e = .returned (.bool true) ∧ w.grownBy w' none := by
  by_cases hl : 30 < (len : Int)
  · exact walk_long v f n k len cap ao w hl
  have hl' : (len : Int) ≤ 30 := by omega
  clear hl
  -- Run
  obtain ⟨x, fx, nx, dx, ex, TR, hx⟩ : ∃ x fx nx dx ex : Int, (∀ W, w.grownBy W none → Calls Try.prog 20 #[.agg #[.int .i64 v, .int .i64 f, .int .u64 n], .slice ao len cap] W fun e w' => e = .returned (.tuple #[.agg #[.int .i64 x, .int .i64 fx, .int .u64 nx], .int .i64 dx, .int .i64 ex]) ∧ W.grownBy w' none) ∧ fx ≤ x := by
    by_cases hr : f ≤ v ∧ n ≤ 4611686018427387904
    · refine ⟨(runS f v n 0 zs).1, f, (runS f v n 0 zs).2.1, (runS f v n 0 zs).2.2.1, (runS f v n 0 zs).2.2.2, fun W hW => ?_, ?_⟩
      · rw [← hlen]
        exact run_good v f n sb so cap ao zs W hB hr (by omega) (hsb.imp (fun h => Nat.lt_of_lt_of_le h hW.size) id) (fun j hj => ⟨(hz j hj).1, gcell hW (hz j hj).2.1 (by simp), (hz j hj).2.2⟩)
      · refine (runS_ge f zs v n 0 hB hr.1 ?_).1
        intro z hzm
        obtain ⟨j, hj, rfl⟩ := List.getElem_of_mem hzm
        have := (hz j hj).2.2
        simpa [List.getD, List.getElem?_eq_getElem hj] using this
    · exact ⟨0, 0, 0, 0, 2, fun W _ => run_bad v f n len cap ao W hr, Int.le_refl 0⟩
  have D := debit_tells v f n k hB hk hk'
  have C := credit_tells v f n k hB hk hk'
  have RD := moveE_range true v f n (pos k)
  have RC := moveE_range false v f n (pos k)
  have hp : 0 ≤ pos k := by unfold pos; split <;> omega
  have bB := hB
  obtain ⟨b0, b1, b2, b3, b4, b5⟩ := hB
  by_cases h1 : moveE true v f n (pos k) = 0
  · obtain ⟨z1, z2, z3, z4, z5, _⟩ := moveE_zero h1
    have z5 := z5 rfl
    have hpk : pos k = k := by unfold pos at hp z4 ⊢; split at * <;> omega
    have T1 := tells0 D h1
    have hB2 : Bd (v - pos k) f (n + 1) := ⟨by omega, by omega, by omega, by omega, by omega, by omega⟩
    have C2 := credit_tells (v - pos k) f (n + 1) k hB2 hk hk'
    have bk := moveE_back (d := false) (v := v - pos k) (f := f) (n := n + 1) (m := pos k) (by omega) (by omega) (by omega) (by simp) (by intro _; omega)
    by_cases h3 : moveE false v f n (pos k) = 0
    · obtain ⟨y1, y2, y3, y4, _, y5⟩ := moveE_zero h3
      have y5 := y5 rfl
      have T3 := tells0 C h3
      have hB4 : Bd (v + pos k) f (n + 1) := ⟨by omega, by omega, by omega, by omega, by omega, by omega⟩
      have D4 := debit_tells (v + pos k) f (n + 1) k hB4 hk hk'
      have bk4 := moveE_back (d := true) (v := v + pos k) (f := f) (n := n + 1) (m := pos k) (by omega) (by omega) (by omega) (by intro _; omega) (by simp)
      rcases bk with e2 | e2 <;> rcases bk4 with e4 | e4
      · have T2 := tells0 C2 e2
        have T4 := tells0 D4 e4
        rw [show v - pos k + pos k = v by omega, show n + 1 + 1 = IntKind.u64.wrap (n + 2) by simp only [IntKind.wrap_u64]; omega] at T2
        rw [show v + pos k - pos k = v by omega] at T4
        exact walk_ZZ v f n k len cap ao w hl' 0 0 _ _ _ _ _ _ x fx nx dx ex T1 (by omega) T2 T3 (by omega) T4 TR hx
      · have T2 := tells0 C2 e2
        have T4 := tells1 D4 (by omega)
        rw [show v - pos k + pos k = v by omega, show n + 1 + 1 = IntKind.u64.wrap (n + 2) by simp only [IntKind.wrap_u64]; omega] at T2
        rw [e4] at T4
        exact walk_ZM v f n k len cap ao w hl' 0 0 _ _ _ _ 0 0 x fx nx dx ex T1 (by omega) T2 T3 (by omega) T4 TR hx
      · have T2 := tells1 C2 (by omega)
        have T4 := tells0 D4 e4
        rw [e2] at T2
        rw [show v + pos k - pos k = v by omega] at T4
        exact walk_MZ v f n k len cap ao w hl' 0 0 _ _ _ _ _ _ x fx nx dx ex T1 (by omega) T2 T3 (by omega) T4 TR hx
      · have T2 := tells1 C2 (by omega)
        have T4 := tells1 D4 (by omega)
        rw [e2] at T2
        rw [e4] at T4
        exact walk_MM v f n k len cap ao w hl' 0 0 _ _ _ _ 0 0 x fx nx dx ex T1 (by omega) T2 T3 (by omega) T4 TR hx
    · have T3 := tells1 C h3
      rcases bk with e2 | e2
      · have T2 := tells0 C2 e2
        rw [show v - pos k + pos k = v by omega, show n + 1 + 1 = IntKind.u64.wrap (n + 2) by simp only [IntKind.wrap_u64]; omega] at T2
        exact walk_ZN v f n k len cap ao w hl' 0 _ _ _ 0 0 0 0 x fx nx dx ex T1 (by omega) T2 T3 (by simpa using h3) RC.1 RC.2 TR hx
      · have T2 := tells1 C2 (by omega)
        rw [e2] at T2
        exact walk_MN v f n k len cap ao w hl' 0 _ _ _ 0 0 0 0 x fx nx dx ex T1 (by omega) T2 T3 (by simpa using h3) RC.1 RC.2 TR hx
  · have T1 := tells1 D h1
    by_cases h3 : moveE false v f n (pos k) = 0
    · obtain ⟨y1, y2, y3, y4, _, y5⟩ := moveE_zero h3
      have y5 := y5 rfl
      have T3 := tells0 C h3
      have hB4 : Bd (v + pos k) f (n + 1) := ⟨by omega, by omega, by omega, by omega, by omega, by omega⟩
      have D4 := debit_tells (v + pos k) f (n + 1) k hB4 hk hk'
      have bk4 := moveE_back (d := true) (v := v + pos k) (f := f) (n := n + 1) (m := pos k) (by omega) (by omega) (by omega) (by intro _; omega) (by simp)
      rcases bk4 with e4 | e4
      · have T4 := tells0 D4 e4
        rw [show v + pos k - pos k = v by omega] at T4
        exact walk_NZ v f n k len cap ao w hl' _ 0 0 0 _ _ _ _ x fx nx dx ex T1 (by simpa using h1) RD.1 RD.2 T3 (by omega) T4 TR hx
      · have T4 := tells1 D4 (by omega)
        rw [e4] at T4
        exact walk_NM v f n k len cap ao w hl' _ 0 0 0 _ _ 0 0 x fx nx dx ex T1 (by simpa using h1) RD.1 RD.2 T3 (by omega) T4 TR hx
    · have T3 := tells1 C h3
      exact walk_NN v f n k len cap ao w hl' _ _ 0 0 0 0 0 0 x fx nx dx ex T1 (by simpa using h1) RD.1 RD.2 T3 (by simpa using h3) RC.1 RC.2 TR hx

theorem trodAll_below {H : Type} {enc : TypeId × Value → H} {P : Program} (hl : laidOutB P = true) {W W' : World} (hb : Below W.heap.size W W') :
    ∀ {ts : List TypeId} {vs : List Value} {ds : List (DataW H)} {ps : List MemPlace}, (ts.all fun t => P.readableRec t && decide (t < P.types.size)) = true → DataW.TrodAll enc P W 0 (fun _ => true) true ts vs ds ps → (∀ x ∈ ps, x.block < W.heap.size) →
      DataW.TrodAll enc P W' 0 (fun b => decide (b < W.heap.size)) true ts vs ds ps
  | [], vs, ds, ps, _, h, _ => by
    obtain ⟨rfl, rfl, rfl⟩ := trodAll_nil h
    exact trodAll_mk0
  | t :: ts, vs, ds, ps, hr, h, hlt => by
    obtain ⟨v0, vs0, d0, ds0, p0, q0, rfl, rfl, rfl, h0, r0⟩ := trodAll_cons h
    simp only [List.all_cons, Bool.and_eq_true, decide_eq_true_eq] at hr
    exact trodAll_cons_mk (Below.trod hl hr.1.1 hr.1.2 h0 hb (fun x hx => hlt x (by simp [hx]))) (trodAll_below hl hb hr.2 r0 (fun x hx => hlt x (by simp [hx])))

/-- THE ROW OF A LAW, WHATEVER ITS ARGUMENTS: it has returned true, and of what was there nothing has turned. -/
theorem law_post {H : Type} {enc : TypeId × Value → H} {P : Program} {f : Func} {s : ChangeSpec} {apart fresh handsOn : Bool} {W W' : World} {args : Array Value} {ds : List (DataW H)} {p : List MemPlace} {tb : TypeId}
    (hl : laidOutB P = true) (hr : (f.params.toList.all fun t => P.readableRec t && decide (t < P.types.size)) = true) (hres : f.resultTypes = #[tb]) (htb : P.underlying tb = some .bool) (hsv : s.vars = [])
    (hW : DataW.Whole enc P f.params.toList s.vars apart W args.toList ds [] p) (hA : DataW.TrodAll enc P W 0 (fun _ => true) true f.params.toList args.toList ds p)
    (hs : s.fn H (ds ++ []) = { results := [.lit (.bool true)], args := ds }) (hb : Below W.heap.size W W') : s.post enc P f apart fresh handsOn false W args (.bool true) W' := by
  refine ⟨ds, [], p, [], p, [], hW, ?_, ?_, ?_, World.keptBut_mono (fun x hx => ⟨hx, Or.inr (by simpa using hx)⟩) (hb.frame (· ∈ p)), fun h => by cases h⟩
  · rw [hs, hres]
    exact trodAll_cons_mk (shut_bool htb _) trodAll_mk0
  · rw [hs]
    exact trodAll_below hl hb hr hA (fun x hx => hW.lt x hx)
  · rw [hs, hsv]
    exact rfl

theorem Try.cells2 : Try.prog.cellsOf 2 = 1 := by kernel_rfl

set_option maxRecDepth 100000 in
theorem lifted (os : Os) (started : os.Started) (H : Type) (enc : TypeId × Value → H) :
    ReturnsInHanded {} Try.checked os 7 .any (Rows.escrowHoldsSpec.pre6 enc Try.prog Try.f7 Rows.escrowHoldsRow.domain false) (Rows.escrowHoldsSpec.post enc Try.prog Try.f7 false true false false) := by
  refine returnsInHanded_of_change (C := Try.checked) own started (by kernel_rfl) Try.func7
    (ChangeSpec.witness6 (enc := enc) (C := Try.checked) false ⟨#[], #[.agg #[.int .i64 0, .int .i64 0, .int .u64 0], .int .i64 0, .slice none 0 0], []⟩ 8 (by kernel_rfl) (by kernel_rfl) (by kernel_rfl) (by kernel_rfl)) ?_
  intro W base args ds gs before hval0 hW hcnd _
  have hval : ∀ (j : Nat) t v, Try.f7.params[j]? = some t → args[j]? = some v → Value.okWide Try.prog W .any base t v := hval0
  have hW' := hW
  obtain ⟨p, q, hA0, hV, rfl, hfz, hnd⟩ := hW
  obtain ⟨rfl, rfl⟩ := trodVars_none hV
  rw [List.append_nil] at hW'
  have hA : DataW.TrodAll enc Try.prog W 0 (fun _ => true) true Try.f7.params.toList args.toList ds p := hA0
  have hAk := hA
  rw [Try.params7] at hA hval
  obtain ⟨v0, vs0, d0, ds0, p0, q0, hargs, rfl, rfl, h0, r0⟩ := trodAll_cons hA
  obtain ⟨v1, vs1, d1, ds1, p1, q1, rfl, rfl, rfl, h1, r1⟩ := trodAll_cons r0
  obtain ⟨v2, vs2, d2, ds2, p2, q2, rfl, rfl, rfl, h2, r2⟩ := trodAll_cons r1
  obtain ⟨rfl, rfl, rfl⟩ := trodAll_nil r2
  obtain rfl : args = #[v0, v1, v2] := by cases args; simp_all
  obtain ⟨x, f, n, rfl, rfl, rfl, wx, wf, wn⟩ := open_counter (hval 0 24 v0 rfl rfl) h0
  obtain ⟨k, rfl, rfl, rfl, wk⟩ := open_int Try.underlying2 (hval 1 2 v1 rfl rfl) h1
  have bk := bounds_i64 wk
  obtain ⟨ao, len, cap, rfl⟩ := okWide_slice Try.underlying38 (hval 2 38 v2 rfl rfl)
  obtain ⟨sb, so, zs, hlen, hsb, hz⟩ : ∃ sb so : Nat, ∃ zs : List Int, zs.length = len ∧ (sb < W.heap.size ∨ zs = []) ∧ (∀ j, j < zs.length → ao = some ⟨sb, so, none⟩ ∧ W.cell? ⟨sb, so + j, none⟩ = some (.int .i64 (zs.getD j 0)) ∧ -9223372036854775808 ≤ zs.getD j 0 ∧ zs.getD j 0 ≤ 9223372036854775807) := by
    obtain ⟨fuel, hf⟩ := h2
    rcases open_ints Try.underlying38 Try.underlying2 Try.cells2 hf with ⟨hcs, hx⟩ | ⟨a, len', cap', zs, hcs, _, hl, hm, hzl, hx, hcell, hwz⟩
    · have hcs : [Value.slice ao len cap] = _ := hcs
      simp only [List.cons.injEq, Value.slice.injEq, and_true] at hcs
      obtain ⟨rfl, rfl, rfl⟩ := hcs
      exact ⟨0, 0, [], rfl, .inr rfl, fun j hj => absurd hj (by simp)⟩
    · have hcs : [Value.slice ao len cap] = _ := hcs
      simp only [List.cons.injEq, Value.slice.injEq, and_true] at hcs
      obtain ⟨rfl, rfl, rfl⟩ := hcs
      simp only [if_true] at hzl
      by_cases hp : 0 < zs.length
      · obtain ⟨b, off, rfl, hc⟩ := ints_at hcell hp
        refine ⟨b, off, zs.take len, by rw [List.length_take]; omega, .inl (World.block_lt_of_cell? W _ (hc 0 hp)), fun j hj => ?_⟩
        have hj' : j < zs.length := by rw [List.length_take] at hj; omega
        have hg : (zs.take len).getD j 0 = zs.getD j 0 := by
          rw [List.length_take] at hj
          rw [List.getD_eq_getElem?_getD, List.getD_eq_getElem?_getD, List.getElem?_take_of_lt (by omega)]
        rw [hg]
        have hm : zs.getD j 0 ∈ zs := by
          rw [List.getD_eq_getElem?_getD, List.getElem?_eq_getElem hj']
          exact List.getElem_mem hj'
        exact ⟨rfl, hc j hj', (bounds_i64 (hwz _ hm)).1, by have := (bounds_i64 (hwz _ hm)).2; omega⟩
      · have : zs = [] := List.eq_nil_of_length_eq_zero (by omega)
        subst this
        exact ⟨0, 0, [], by simp at hzl ⊢; omega, .inr rfl, fun j hj => absurd hj (by simp)⟩
  refine (walk x f n k sb so len cap ao zs W (bd_of wx wf wn) (by omega) (by omega) hlen hsb hz).mono fun e W' ⟨he, hg⟩ => ?_
  subst he
  exact ⟨_, rfl, law_post (by kernel_rfl) (by kernel_rfl) rfl Try.underlying4 rfl hW' hAk rfl (gbelow hg (by simp))⟩

theorem proved : Rows.EscrowHoldsSaid :=
  OpenClaim.holds_of_wide 7 Try.f7 rfl rfl rfl rfl rfl rfl rfl ⟨rfl, rfl, rfl, rfl, rfl⟩ rfl rfl rfl rfl rfl (by kernel_rfl) Try.func7 (by kernel_rfl)
    (of_decide_eq_true (by kernel_rfl)) (by unfold Func.isWrapper; first | (rw [if_pos (by decide +kernel)]; kernel_rfl) | (rw [if_neg (by decide +kernel)]; exact ⟨rfl, rfl⟩))
    (fun os started H enc _ => lifted os started H enc)
end Go.Proofs.Ytgcejfcfaaidhaa.holds
