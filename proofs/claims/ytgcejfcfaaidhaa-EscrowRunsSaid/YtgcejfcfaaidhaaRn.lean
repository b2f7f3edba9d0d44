/- Run over a slice of changes answers the counter, number, done and refusal that runS names. -/
import Derived.Test.YtgcejfcfaaidhaaSt
import Derived.Test.YtgcejfcfaaidhaaLib2
set_option linter.unusedSimpArgs false
set_option linter.unusedVariables false
namespace Go.Proofs.Ytgcejfcfaaidhaa
open Go.RowKit
attribute [local go_sem] Oper.semAt_some

/-- What 'Run' tells. -/
def runV (f : Int) (r : Int × Int × Int × Int) : Value := .tuple #[.agg #[.int .i64 r.1, .int .i64 f, .int .u64 r.2.1], .int .i64 r.2.2.1, .int .i64 r.2.2.2]

set_option maxHeartbeats 400000 in
theorem steps_any (p : Option Addr) (ao : Option Addr) (m c : Nat) (w : World) :
    Calls Try.prog 32 #[.pointer p, .slice ao m c] w fun e w' => e = .returned (.func (.func 42) #[] #[.pointer (some ⟨w.heap.size + 1, 0, none⟩), .pointer (some ⟨w.heap.size, 0, none⟩)]) ∧ w' = (w.alloc (.cells #[.pointer p] 51)).alloc (.cells #[.slice ao m c] 38) := by
  have hmf : ∀ (fn : Fn) (first cap : Array Value) (w : World), (Instr.makeFunc fn first cap).run Try.prog w = .ok (.func fn first cap) w := fun _ _ _ _ => rfl
  go_enter Try.func32, Try.ntmps32
  go_wp2
  go_ret
  exact ⟨rfl, rfl⟩

set_option maxRecDepth 100000 in
set_option maxHeartbeats 2000000 in
theorem run_good (v f n : Int) (sb so cap : Nat) (ao : Option Addr) (zs : List Int) (w : World) (hB : Bd v f n) (hr : f ≤ v ∧ n ≤ 4611686018427387904) (hlen : zs.length < 9223372036854775807)
    (hsb : sb < w.heap.size ∨ zs = [])
    (hz : ∀ k, k < zs.length → ao = some ⟨sb, so, none⟩ ∧ w.cell? ⟨sb, so + k, none⟩ = some (.int .i64 (zs.getD k 0)) ∧ -9223372036854775808 ≤ zs.getD k 0 ∧ zs.getD k 0 ≤ 9223372036854775807) :
    Calls Try.prog 20 #[.agg #[.int .i64 v, .int .i64 f, .int .u64 n], .slice ao zs.length cap] w fun e w' => e = .returned (runV f (runS f v n 0 zs)) ∧ w.grownBy w' none := by
  have hmf : ∀ (fn : Fn) (first cap : Array Value) (w : World), (Instr.makeFunc fn first cap).run Try.prog w = .ok (.func fn first cap) w := fun _ _ _ _ => rfl
  have HZ := Lib.hid hz
  clear hz
  refine calls_of_wp_marks Try.func20 rfl ?_
  simp only [Try.ntmps20, List.size_toArray, List.length_cons, List.length_nil, Nat.reduceAdd, Nat.reduceSub, Array.replicate_succ, Array.replicate_zero, List.push_toArray, List.append_toArray, List.nil_append, List.cons_append]
  go_wp2
  go_step3
  go_wp2_with fail
  refine (right_t _ v f n _ (by go_simp) (by go_simp) (by go_simp) hr.1 hr.2).mono ?_
  rintro e w1 ⟨rfl, k1, hw1⟩
  -- the blocks that Run has laid
  have hg1 : w.grownBy w1 none := by rw [hw1]; (repeat' (first | (with_reducible exact World.grownBy.refl _ _) | (with_reducible refine galloc ?_ _) | (with_reducible refine gdrewN ?_ _)))
  have hs1 : w1.heap.size = w.heap.size + 4 := by rw [hw1]; simp
  have b1 : w1.heap[w.heap.size + 1]? = some (.cells #[.int .i64 0, .int .i64 0, .int .u64 0] 24 (0, 0)) := by rw [hw1]; exact hold (hold (hnewAt (by simp)))
  have b2 : w1.heap[w.heap.size + 1 + 1]? = some (.cells #[.int .i64 v, .int .i64 f, .int .u64 n, .int .i64 0] 60 (0, 0)) := by rw [hw1]; exact hold (hnewAt (by simp))
  have b3 : w1.heap[w.heap.size + 1 + 1 + 1]? = some (.cells #[.int .i64 0] 25 (0, 0)) := by rw [hw1]; exact hnewAt (by simp)
  have HS1 := Lib.hid hs1
  clear hw1 hs1
  go_wp2_with fail
  go_step3
  go_wp2_with (go_at_call 32; refine (steps_any _ _ _ _ _).mono ?_; rintro e w2 ⟨rfl, rfl⟩)
  refine (wpIn_wide (n := 0)).1 ?_
  refine wpIn_rangeFunc_abs rfl rfl (fun _ => trivial) (gf := 42) (lb := #[.pointer (some ⟨w1.heap.size + 1, 0, none⟩), .pointer (some ⟨w1.heap.size, 0, none⟩)]) rfl (enters_of Try.func42 (by kernel_rfl) rfl) ?_
  intro fn W1 D l R hR hD hl hO hsz hL1 hD1
  have c1 := hO.same (hold (hold b1)) (by simp)
  have c2 := hO.same (hold (hold b2)) (by simp)
  have c3 := hO.same (hold (hold b3)) (by simp)
  have cA := hO.same (hold (hnew w1 (.cells #[.pointer (some ⟨w.heap.size + 1 + 1, 0, none⟩)] 51))) (by simp)
  have cL := hO.same (hnew (w1.alloc (.cells #[.pointer (some ⟨w.heap.size + 1 + 1, 0, none⟩)] 51)) (.cells #[.slice ao zs.length cap] 38)) (by simp)
  have hgW : w.grownBy W1 none := gtrans (galloc (galloc hg1 _) _) hO.toGrown
  have hs1 := HS1.out
  simp only [World.size_alloc] at hD hl hsz cL
  have e0 : w.heap.size + 1 + 1 < l ∧ w.heap.size + 1 + 1 + 1 < l ∧ w.heap.size + 1 < l := by omega
  have e1 : w.heap.size + 1 + 1 < D ∧ w.heap.size + 1 + 1 + 1 < D ∧ w.heap.size + 1 < D := by omega
  have e2 : D ≠ l := by omega
  have e3 : w.heap.size + 1 + 1 < w1.heap.size ∧ w1.heap.size < l ∧ w1.heap.size + 1 < l := by omega
  have e4 : w.heap.size < w1.heap.size := by omega
  clear b1 b2 b3 hO hD hl hsz hs1 hg1 HS1
  have HR := Lib.hid hR
  clear hR
  refine (steps1 l (w.heap.size + 1 + 1) (w1.heap.size + 1) w1.heap.size sb so cap ao zs f v n 0 (fun _ W => Oth [w.heap.size + 1 + 1] W1 W)
    (fun i v n e W => Oth [w.heap.size + 1 + 1, l, w.heap.size + 1 + 1 + 1] W1 W ∧ W.heap[l]? = some (.loop (R .done (some (.exit 0)))) ∧ W.heap[w.heap.size + 1 + 1 + 1]? = some (.cells #[.int .i64 e] 25 (0, 0)) ∧ e ≠ 0 ∧ Acct W (w.heap.size + 1 + 1) v f n (0 + i)) W1 ?hI ?hgo ?hno ?hA hB (by omega) (by omega) ?hL ?hAc ?hbA ?hbs ?hz (Oth.refl _ _)).mono ?_
  case hI => exact fun i X Y h hg => h.grown hg (by simp)
  case hgo =>
    intro i v' n' X hi hp hX hAX
    have x1 := hX.same hL1 (by simp; omega)
    have hsb' : sb < w.heap.size := by rcases hsb with h | rfl; exact h; simp at hi
    have hlw : w.heap.size < l := by omega
    refine yieldAt_R HR.out trivial x1 rfl ?_
    clear hmf HZ
    gi_wp2
    have x2 : ((X.putObj l (.loop (R .busy none))).putObj l (.loop (R .ready none))).heap[l]? = some (.loop (R .ready none)) := hputs (hputs x1)
    refine ⟨hputs x1, rfl, ?_, ?_⟩
    · exact (((hX.mono (ks' := [l, w.heap.size + 1 + 1]) (by simp)).put (.inl (by simp)) _).put (.inl (by simp)) _).round hL1 x2
    · intro k hk
      have : k ≠ l := by rcases hk with rfl | rfl | rfl <;> omega
      exact (World.putObj_heap_other this).trans (World.putObj_heap_other this)
  case hno =>
    intro i v' n' e X hi he hp hX hAX
    have x1 := hX.same hL1 (by simp; omega)
    have x3 := hX.same c3 (by simp)
    have y1 : (X.putObj l (.loop (R .busy none))).heap[w.heap.size + 1 + 1 + 1]? = some (.cells #[.int .i64 0] 25 (0, 0)) := hput x3 (by omega)
    have yc : (X.putObj l (.loop (R .busy none))).cell? ⟨w.heap.size + 1 + 1 + 1, 0, none⟩ = some (.int .i64 0) := by rw [bcell y1]; rfl
    have yz := bfroz y1 0
    have he' : (e != 0) = true := by simpa using he
    refine yieldAt_R HR.out trivial x1 rfl ?_
    clear hmf HZ
    gi_wp2
    have q1 : ((X.putObj l (.loop (R .busy none))).setCell ⟨w.heap.size + 1 + 1 + 1, 0, none⟩ (.int .i64 e)).heap[l]? = some (.loop (R .busy none)) := hset (hputs x1) (by show l ≠ w.heap.size + 1 + 1 + 1; omega)
    refine ⟨q1, rfl, ?_, hputs q1, ?_, ?_⟩
    · exact ((((hX.mono (ks' := [w.heap.size + 1 + 1, l, w.heap.size + 1 + 1 + 1]) (by simp)).put (.inl (by simp)) _).set (.inl (by simp)) _).put (.inl (by simp)) _)
    · have := hput (l := l) (o := .loop (R .done (some (.exit 0)))) (bset y1 0 (.int .i64 e)) (by omega)
      simpa using this
    · have hh : (((X.putObj l (.loop (R .busy none))).setCell ⟨w.heap.size + 1 + 1 + 1, 0, none⟩ (.int .i64 e)).putObj l (.loop (R .done (some (.exit 0))))).heap[w.heap.size + 1 + 1]? = X.heap[w.heap.size + 1 + 1]? := by
        rw [World.putObj_heap_other (by omega), Below.heap_setCell _ _ _ _ (by show w.heap.size + 1 + 1 ≠ w.heap.size + 1 + 1 + 1; omega), World.putObj_heap_other (by omega)]
      simpa using hAX.same hh
  case hA => exact ⟨by rw [bcell c2]; rfl, by rw [bcell c2]; rfl, by rw [bcell c2]; rfl, by rw [bcell c2]; rfl, fun o => bfroz c2 o⟩
  case hL => rw [bcell cL]; rfl
  case hAc => rw [bcell cA]; rfl
  case hbA => omega
  case hbs => intro h0; rcases hsb with h | rfl; omega; simp at h0
  case hz => 
    intro k hk
    obtain ⟨h1, h2, h3⟩ := HZ.out k hk
    exact ⟨h1, gcell hgW h2 (by simp), h3⟩
  rintro e W2 ⟨⟨x, rfl⟩, (⟨v', n', d', hrun, hp, hO2, hA2⟩ | ⟨i, v', n', e, ⟨hO2, hl2, hy2, he0, hA2⟩, hrun⟩)⟩
  · refine .inl ⟨hO2.same hL1 (by simp; omega), ?_⟩
    have hy2 := hO2.same c3 (by simp)
    have hO3 : Oth [w.heap.size + 1 + 1, l, w.heap.size + 1 + 1 + 1] W1 (W2.putObj l (.loop (R .exhausted none))) := (hO2.mono (by simp)).put (.inl (by simp)) _
    have hW3 : ∀ k, k ≠ l → (W2.putObj l (.loop (R .exhausted none))).heap[k]? = W2.heap[k]? := fun k hk => World.putObj_heap_other hk
    generalize W2.putObj l (.loop (R .exhausted none)) = W3 at hO3 hW3 ⊢
    have A3 := hA2.same (W := W3) (hW3 _ (by omega))
    have y3 : W3.heap[w.heap.size + 1 + 1 + 1]? = some (.cells #[.int .i64 0] 25 (0, 0)) := (hW3 _ (by omega)).trans hy2
    have r3 : W3.heap[w.heap.size + 1]? = some (.cells #[.int .i64 0, .int .i64 0, .int .u64 0] 24 (0, 0)) := (hW3 _ (by omega)).trans (hO2.same c1 (by simp <;> omega))
    have D3 : W3.heap[D]? = some (.deferred (some [])) := (hW3 _ (by omega)).trans (hO2.same hD1 (by simp <;> omega))
    have a0 := A3.c0
    have a1 := A3.c1
    have a2 := A3.c2
    have a3 := A3.c3
    have yc : W3.cell? ⟨w.heap.size + 1 + 1 + 1, 0, none⟩ = some (.int .i64 0) := by rw [bcell y3]; rfl
    have r0 : W3.cell? ⟨w.heap.size + 1, 0, none⟩ = some (.int .i64 0) := by rw [bcell r3]; rfl
    have r1 : W3.cell? ⟨w.heap.size + 1, 1, none⟩ = some (.int .i64 0) := by rw [bcell r3]; rfl
    have r2 : W3.cell? ⟨w.heap.size + 1, 2, none⟩ = some (.int .u64 0) := by rw [bcell r3]; rfl
    have z0 := bfroz r3 0
    have z1 := bfroz r3 1
    have z2 := bfroz r3 2
    have hgW3 : w.grownBy W3 none := ((Oth.ofGrown hgW (by simp)).trans hO3).new (by simp; omega)
    have G3 := Lib.hid hgW3
    have D3' := Lib.hid D3
    have R3 := Lib.hid r3
    have RR := Lib.hid hrun
    have eD : w.heap.size + 1 < D := by omega
    clear hW3 hO3 hgW3 hgW c1 c2 c3 cA cL hL1 hD1 A3 y3 r3 D3 hA2 hO2 HR HZ hmf hB hsb hr hp hrun
    clear e0 e1 e2 e3 e4
    go_wp2
    go_region
    go_wp2
    have D4 : ((((W3.setCell ⟨w.heap.size + 1, 0, none⟩ (.int .i64 v')).setCell ⟨w.heap.size + 1, 1, none⟩ (.int .i64 f)).setCell ⟨w.heap.size + 1, 2, none⟩ (.int .u64 n')).drew).heap[D]? = some (.deferred (some [])) :=
      hset (hset (hset D3'.out (by show D ≠ w.heap.size + 1; omega)) (by show D ≠ w.heap.size + 1; omega)) (by show D ≠ w.heap.size + 1; omega)
    refine ⟨by simp, .inl ⟨_, _, rfl, run_takeDeferred D4, ?_⟩⟩
    have rb : (((W3.setCell ⟨w.heap.size + 1, 0, none⟩ (.int .i64 v')).setCell ⟨w.heap.size + 1, 1, none⟩ (.int .i64 f)).setCell ⟨w.heap.size + 1, 2, none⟩ (.int .u64 n')).heap[w.heap.size + 1]? = some (.cells #[.int .i64 v', .int .i64 f, .int .u64 n'] 24 (0, 0)) := by
      have := bset (bset (bset R3.out 0 (.int .i64 v')) 1 (.int .i64 f)) 2 (.int .u64 n')
      simpa using this
    have rc := fun o => bcell (hput (l := D) (o := .deferred none) rb (by omega)) o
    have rc0 := rc 0
    have rc1 := rc 1
    have rc2 := rc 2
    simp only [List.getElem?_toArray, List.getElem?_cons_zero, List.getElem?_cons_succ] at rc0 rc1 rc2
    clear rc
    refine ⟨.tuple #[.agg #[.int .i64 v', .int .i64 f, .int .u64 n'], .int .i64 d', .int .i64 0], by simp [results, Try.results20, go_sem, rc0, rc1, rc2], ?_, ?_⟩
    · rw [RR.out]; simp [runV]
    · exact gput (gdrew (gset (gset (gset G3.out (.inl (by show _ ≤ w.heap.size + 1; omega)) _) (.inl (by show _ ≤ w.heap.size + 1; omega)) _) (.inl (by show _ ≤ w.heap.size + 1; omega)) _)) (.inl (by omega)) _

  · refine .inr ⟨_, hl2, ?_⟩
    have hO3 : Oth [w.heap.size + 1 + 1, l, w.heap.size + 1 + 1 + 1] W1 (W2.putObj l (.loop (R .exhausted (some (.exit 0))))) := hO2.put (.inl (by simp)) _
    have hW3 : ∀ k, k ≠ l → (W2.putObj l (.loop (R .exhausted (some (.exit 0))))).heap[k]? = W2.heap[k]? := fun k hk => World.putObj_heap_other hk
    generalize W2.putObj l (.loop (R .exhausted (some (.exit 0)))) = W3 at hO3 hW3 ⊢
    refine wpIn_exit ?_
    have A3 := hA2.same (W := W3) (hW3 _ (by omega))
    have y3 : W3.heap[w.heap.size + 1 + 1 + 1]? = some (.cells #[.int .i64 e] 25 (0, 0)) := (hW3 _ (by omega)).trans hy2
    have r3 : W3.heap[w.heap.size + 1]? = some (.cells #[.int .i64 0, .int .i64 0, .int .u64 0] 24 (0, 0)) := (hW3 _ (by omega)).trans (hO2.same c1 (by simp <;> omega))
    have D3 : W3.heap[D]? = some (.deferred (some [])) := (hW3 _ (by omega)).trans (hO2.same hD1 (by simp <;> omega))
    have a0 := A3.c0
    have a1 := A3.c1
    have a2 := A3.c2
    have a3 := A3.c3
    have yc : W3.cell? ⟨w.heap.size + 1 + 1 + 1, 0, none⟩ = some (.int .i64 e) := by rw [bcell y3]; rfl
    have r0 : W3.cell? ⟨w.heap.size + 1, 0, none⟩ = some (.int .i64 0) := by rw [bcell r3]; rfl
    have r1 : W3.cell? ⟨w.heap.size + 1, 1, none⟩ = some (.int .i64 0) := by rw [bcell r3]; rfl
    have r2 : W3.cell? ⟨w.heap.size + 1, 2, none⟩ = some (.int .u64 0) := by rw [bcell r3]; rfl
    have z0 := bfroz r3 0
    have z1 := bfroz r3 1
    have z2 := bfroz r3 2
    have hgW3 : w.grownBy W3 none := ((Oth.ofGrown hgW (by simp)).trans hO3).new (by simp; omega)
    have G3 := Lib.hid hgW3
    have D3' := Lib.hid D3
    have R3 := Lib.hid r3
    have RR := Lib.hid (hrun he0)
    have eD : w.heap.size + 1 < D := by omega
    clear hW3 hO3 hgW3 hgW c1 c2 c3 cA cL hL1 hD1 A3 y3 r3 D3 hA2 hO2 HR HZ hmf hB hsb hr hl2 hy2 he0 hrun
    clear e0 e1 e2 e3 e4
    go_wp2
    go_region
    go_wp2
    have D4 : ((((W3.setCell ⟨w.heap.size + 1, 0, none⟩ (.int .i64 v')).setCell ⟨w.heap.size + 1, 1, none⟩ (.int .i64 f)).setCell ⟨w.heap.size + 1, 2, none⟩ (.int .u64 n')).drew).heap[D]? = some (.deferred (some [])) :=
      hset (hset (hset D3'.out (by show D ≠ w.heap.size + 1; omega)) (by show D ≠ w.heap.size + 1; omega)) (by show D ≠ w.heap.size + 1; omega)
    refine ⟨by simp, .inl ⟨_, _, rfl, run_takeDeferred D4, ?_⟩⟩
    have rb : (((W3.setCell ⟨w.heap.size + 1, 0, none⟩ (.int .i64 v')).setCell ⟨w.heap.size + 1, 1, none⟩ (.int .i64 f)).setCell ⟨w.heap.size + 1, 2, none⟩ (.int .u64 n')).heap[w.heap.size + 1]? = some (.cells #[.int .i64 v', .int .i64 f, .int .u64 n'] 24 (0, 0)) := by
      have := bset (bset (bset R3.out 0 (.int .i64 v')) 1 (.int .i64 f)) 2 (.int .u64 n')
      simpa using this
    have rc := fun o => bcell (hput (l := D) (o := .deferred none) rb (by omega)) o
    have rc0 := rc 0
    have rc1 := rc 1
    have rc2 := rc 2
    simp only [List.getElem?_toArray, List.getElem?_cons_zero, List.getElem?_cons_succ] at rc0 rc1 rc2
    clear rc
    refine ⟨.tuple #[.agg #[.int .i64 v', .int .i64 f, .int .u64 n'], .int .i64 (0 + (i : Int)), .int .i64 e], by simp [results, Try.results20, go_sem, rc0, rc1, rc2], ?_, ?_⟩
    · rw [RR.out]; simp [runV]
    · exact gput (gdrew (gset (gset (gset G3.out (.inl (by show _ ≤ w.heap.size + 1; omega)) _) (.inl (by show _ ≤ w.heap.size + 1; omega)) _) (.inl (by show _ ≤ w.heap.size + 1; omega)) _)) (.inl (by omega)) _

end Go.Proofs.Ytgcejfcfaaidhaa
