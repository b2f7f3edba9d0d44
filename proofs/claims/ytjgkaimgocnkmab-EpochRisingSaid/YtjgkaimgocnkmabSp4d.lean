/- A reckoner of Go's small steps over letters: append, copy, bytes. No condition. -/
import Derived.Test.YtjgkaimgocnkmabSp4c
set_option linter.unusedVariables false
set_option linter.unusedSimpArgs false
namespace Go.Proofs.Ytjgkaimgocnkmab.Sx
open Go
section
variable {P : Program} {T : Tab} {ρ : Rho} {b0 : World} {pc : List BE} {h : SHeap} {nx : Nat} {w : World} {sl : Slots} {a : Act} {S : Sem Next}
def Rho.set2 (ρ : Rho) (n A C : Nat) : Rho := (ρ.set n A).set (n + 1) C
theorem Rho.set2_agr (ρ : Rho) (n A C : Nat) : Agr ρ (ρ.set2 n A C) n (n + 2) := ⟨rfl, rfl, rfl, rfl, rfl, fun m hm => by
  have h1 : m ≠ n := by omega
  have h2 : m ≠ n + 1 := by omega
  simp [Rho.set2, Rho.set, h1, h2]⟩
theorem Rho.set2_a (ρ : Rho) (n A C : Nat) : (ρ.set2 n A C).a n = A := by simp [Rho.set2, Rho.set]
theorem Rho.set2_c (ρ : Rho) (n A C : Nat) : (ρ.set2 n A C).a (n + 1) = C := by simp [Rho.set2, Rho.set]
/-- A new row, or an old one under a new name. -/
theorem Move.row (H : HeapR ρ b0 h w) (hn : HNames nx h) {h0 : SHeap} (hsub : ∀ k p, lk h0 k = some p → lk h k = some p) {A C : Nat} {w' : World} {o : SObj} {obj : Obj}
    (g0 : b0.grownBy w' none) (hsz : w.heap.size ≤ w'.heap.size) (hA : w.heap.size ≤ A ∨ ∃ n p, lk h n = some p ∧ ρ.a n = A ∧ lk h0 n = none)
    (hobj : w'.heap[A]? = some obj) (hkeep : ∀ k p, lk h0 k = some p → w'.heap[ρ.a k]? = w.heap[ρ.a k]?)
    (hsame : ∀ k, k < w.heap.size → (∀ n o, lk h n = some o → ρ.a n ≠ k) → w'.heap[k]? = w.heap[k]?)
    (ho : ObjR (ρ.set2 nx A C) o obj) (hon : ∀ m ∈ o.names, m < nx + 2) : Move ρ (ρ.set2 nx A C) b0 h ((nx, o) :: h0) nx (nx + 2) w w' := by
  have g := ρ.set2_agr nx A C
  have hold : ∀ n p, lk h0 n = some p → (ρ.set2 nx A C).a n = ρ.a n := fun n p hp => g.a n (.inl (hn n p (hsub n p hp)).1)
  have hown : b0.heap.size ≤ A := by
    rcases hA with hA | ⟨n, p, h1, h2, _⟩
    · exact Nat.le_trans H.g0.size hA
    · rw [← h2]; exact H.own n p h1
  have hne : ∀ k p, lk h0 k = some p → ρ.a k ≠ A := by
    intro k p hp he
    rcases hA with hA | ⟨n, q, h1, h2, h3⟩
    · have := H.lt (hsub k p hp); omega
    · have := H.inj k n p q (hsub k p hp) h1 (by rw [he, h2])
      subst this
      rw [hp] at h3; cases h3
  refine ⟨g, by omega, ⟨g0, ?_, ?_, ?_⟩, hsz, hsame, ?_, ?_⟩
  · intro n p hp
    rw [lk_cons] at hp
    split at hp
    · rename_i he
      subst he
      cases hp
      exact ⟨obj, by rw [Rho.set2_a]; exact hobj, ho⟩
    · obtain ⟨ob, h1, h2⟩ := H.at_ n p (hsub n p hp)
      exact ⟨ob, by rw [hold n p hp, hkeep n p hp]; exact h1, h2.agr g (fun m hm => .inl ((hn n p (hsub n p hp)).2 m hm))⟩
  · intro n p hp
    rw [lk_cons] at hp
    split at hp
    · rename_i he
      subst he
      rw [Rho.set2_a]; exact hown
    · rw [hold n p hp]; exact H.own n p (hsub n p hp)
  · intro n m p q hp hq he
    rw [lk_cons] at hp hq
    split at hp
    · rename_i e1
      subst e1
      split at hq
      · rename_i e2; exact e2
      · rw [Rho.set2_a, hold m q hq] at he
        exact absurd he.symm (hne m q hq)
    · split at hq
      · rename_i e2
        subst e2
        rw [Rho.set2_a, hold n p hp] at he
        exact absurd he (hne n p hp)
      · rw [hold n p hp, hold m q hq] at he
        exact H.inj n m p q (hsub n p hp) (hsub m q hq) he
  · intro n p hp
    rw [lk_cons] at hp
    split at hp
    · rename_i he
      subst he
      refine .inr ⟨Nat.le_refl _, by omega, ?_⟩
      rw [Rho.set2_a]
      rcases hA with hA | ⟨m, q, h1, h2, _⟩
      · exact .inl hA
      · exact .inr ⟨m, q, h1, h2.symm⟩
    · exact .inl ⟨p, hsub n p hp⟩
  · intro n p hp
    rw [lk_cons] at hp
    split at hp
    · rename_i he
      subst he
      cases hp
      exact ⟨by omega, hon⟩
    · have := hn n p (hsub n p hp)
      exact ⟨by omega, fun m hm => by have := this.2 m hm; omega⟩
/-- What is appended is no number that tells how many noughts. -/
def srcTy (d : TypeDesc) : Prop := (∃ e, d = .slice e) ∨ d = .string
theorem append_grow {t u ty e : TypeId} {i : TypeInfo} {z x : Value} {du : TypeDesc} {base : Option Addr} {sLen sCap k : Nat} {old new : Array Value} (ht : P.underlying t = some (.slice e)) (hu : P.underlying u = some du) (hd : srcTy du) (hi : P.info? e = some i) (hz : i.zero = some z)
    (hlen : (Builtin.lenOf x).run P w = .ok k w) (hold : (Builtin.firstCells i.size sLen (.slice base sLen sCap)).run P w.drew = .ok old w.drew) (hnew : (Builtin.firstCells i.size k x).run P w.drew = .ok new w.drew)
    (hroom : ¬ sLen + k ≤ sCap) (h63 : ((sLen + k : Nat) : Int) ≤ 9223372036854775807) (hfit : Builtin.nextslicecap (sLen + k) sCap * i.bytes ≤ 281474976710656) :
    (Builtin.append_ #[t, u] ty #[.slice base sLen sCap, x]).run P w = .ok (.slice (some ⟨w.heap.size, 0, none⟩) (sLen + k) (grownCap w (sLen + k) sCap e)) (w.drew.alloc (.cells (old ++ new ++ Builtin.zeroCells z.cells (grownCap w (sLen + k) sCap e - (sLen + k))) e)) := by
  have h63' : ¬ (9223372036854775807 < ((sLen : Int) + (k : Int))) := by omega
  have h48' : ¬ (281474976710656 < Builtin.nextslicecap (sLen + k) sCap * i.bytes) := by omega
  rcases hd with ⟨e', rfl⟩ | rfl <;>
    simp [Builtin.append_, run_underlying ht, run_underlying hu, sizeOf, typeInfo, zeroValue, hi, hz, hlen, hroom, h63', h48', Question.forced, hold, hnew, newRow, grownCap]
theorem append_in {t u ty e : TypeId} {i : TypeInfo} {x : Value} {du : TypeDesc} {g off sLen sCap k : Nat} {new : List Value} {w' : World} (ht : P.underlying t = some (.slice e)) (hu : P.underlying u = some du) (hd : srcTy du) (hi : P.info? e = some i)
    (hlen : (Builtin.lenOf x).run P w = .ok k w) (hnew : (Builtin.firstCells i.size k x).run P w = .ok new.toArray w) (hroom : sLen + k ≤ sCap) (hst : (storeCells ⟨g, off + sLen * i.size, none⟩ new).run P w = .ok () w') :
    (Builtin.append_ #[t, u] ty #[.slice (some ⟨g, off, none⟩) sLen sCap, x]).run P w = .ok (.slice (some ⟨g, off, none⟩) (sLen + k) sCap) w' := by
  rcases hd with ⟨e', rfl⟩ | rfl <;>
    simp [Builtin.append_, run_underlying ht, run_underlying hu, sizeOf, typeInfo, hi, hlen, hroom, hnew, addr_add, hst]
theorem append_nil0 {t u ty e : TypeId} {i : TypeInfo} {x : Value} {du : TypeDesc} (ht : P.underlying t = some (.slice e)) (hu : P.underlying u = some du) (hd : srcTy du) (hi : P.info? e = some i)
    (hlen : (Builtin.lenOf x).run P w = .ok 0 w) (hnew : (Builtin.firstCells i.size 0 x).run P w = .ok #[] w) :
    (Builtin.append_ #[t, u] ty #[.slice none 0 0, x]).run P w = .ok (.slice none 0 0) w := by
  rcases hd with ⟨e', rfl⟩ | rfl <;>
    simp [Builtin.append_, run_underlying ht, run_underlying hu, sizeOf, typeInfo, hi, hlen, hnew]
/-- A row that is made: those cells, and more behind them. -/
theorem newRow_ok (H : HeapR ρ b0 h w) (hn : HNames nx h) {h0 : SHeap} (hsub : ∀ k p, lk h0 k = some p → lk h k = some p) {S : Sem Next} {cs : List SV} {e : TypeId} {sz len cap : Nat} {rest : Array Value} {lo hi : Nat} {w' : World} (hw : ∃ wd : World, HeapR ρ b0 h wd ∧ wd.heap = w.heap ∧ w'.heap = wd.heap.push (.cells ((SV.denL ρ cs).toArray ++ rest) e (lo, hi)) ∧ w'.os = wd.os ∧ w'.tape = wd.tape ∧ w'.output = wd.output)
    (hr : S.run P w = .ok (.value (.slice (some ⟨w.heap.size, 0, none⟩) len cap)) w') (hfz : hi ≤ lo ∨ cs.length + rest.size ≤ lo) (hcap : cs.length + rest.size = cap * sz) (hmax : cap ≤ maxLen) (hpos : 0 < sz) (hcn : ∀ m ∈ SV.namesL cs, m < nx) :
    ORok P ρ b0 h nx w S (newRowS h0 nx cs e sz len) := by
  obtain ⟨wd, Hd, e1, e2, e3, e4, e5⟩ := hw
  have g := ρ.set2_agr nx w.heap.size cap
  have hden : SV.denL (ρ.set2 nx w.heap.size cap) cs = SV.denL ρ cs := SV.denL_agr g cs (fun m hm => .inl (hcn m hm))
  refine ⟨ρ.set2 nx w.heap.size cap, w', _, hr, .inl ?_, Move.row H hn hsub ?_ ?_ (.inl (Nat.le_refl _)) (obj := .cells ((SV.denL ρ cs).toArray ++ rest) e (lo, hi)) ?_ ?_ ?_ ?_ ?_, ?_⟩
  · simp [SV.den, Rho.set2_a, Rho.set2_c]
  · refine ⟨e3.trans Hd.g0.os, e4.trans Hd.g0.tape, e5.trans Hd.g0.output, by rw [e2]; simp; exact Nat.le_succ_of_le Hd.g0.size, fun k hk hne => ?_⟩
    have := Hd.g0.size
    rw [e2, Array.getElem?_push_lt (by omega), ← Array.getElem?_eq_getElem]
    exact Hd.g0.block k hk hne
  · rw [e2, e1]; simp
  · rw [e2, e1]; simp
  · intro k p hp
    have := H.lt (hsub k p hp)
    rw [e2, e1, Array.getElem?_push_lt this, ← Array.getElem?_eq_getElem]
  · intro k hk _
    rw [e2, e1, Array.getElem?_push_lt hk, ← Array.getElem?_eq_getElem]
  · refine ⟨rest, lo, hi, by rw [hden], hfz, by rw [Rho.set2_c]; exact hcap, by rw [Rho.set2_c]; exact hmax, hpos⟩
  · intro m hm
    simp only [SObj.names, List.mem_cons] at hm
    rcases hm with rfl | hm
    · omega
    · have := hcn m hm; omega
  · intro m hm
    simp only [SV.names, List.mem_cons, List.not_mem_nil, or_false] at hm
    omega
theorem lk_rmH (n : Nat) (h : SHeap) (m : Nat) : lk (rmH n h) m = if m = n then none else lk h m := by
  induction h with
  | nil => simp [rmH, lk_nil]
  | cons p h ih =>
    obtain ⟨k, o⟩ := p
    simp only [rmH]
    split
    · rename_i e
      have e' : k = n := by simpa using e
      subst e'
      rw [ih, lk_cons]
      by_cases hm : m = k
      · simp [hm]
      · simp [hm, Ne.symm hm]
    · rename_i e
      have e' : ¬ k = n := by simpa using e
      rw [lk_cons, ih, lk_cons]
      by_cases hm : k = m
      · subst hm; simp [e']
      · simp [hm]
theorem appendTo_ok (hT : T.Ok P) (H : HeapR ρ b0 h w) (hn : HNames nx h) {t u ty e : TypeId} {te : TI} {du : TypeDesc} (ht : P.underlying t = some (.slice e)) (hu : P.underlying u = some du) (hd : srcTy du) (hte : T.ty.get e = some te)
    (hby : te.bytes ≤ 1000000) (hpos : 0 < te.size) {k : Nat} {new : List SV} {x : SV} (hsrc : Src P ρ b0 h nx te.size x k new) (hk : k ≤ 1000000) (hone : allOne new = true) {s : SV} (hsn : NamesV nx s) :
    ORok P ρ b0 h nx w (do pure (.value (← Builtin.append_ #[t, u] ty #[s.den ρ, x.den ρ]))) (appendTo h nx e te.size k new s) := by
  obtain ⟨i, z, hi, hsz, hz, hzc, hib⟩ := (hT.ty _ te hte).info
  have hzl := (hT.ty _ te hte).zl
  have hdrew : HeapR ρ b0 h w.drew := drewN_heap H
  have hnewd : (Builtin.firstCells i.size k (x.den ρ)).run P w.drew = .ok (SV.denL ρ new).toArray w.drew := by
    have := hsrc.first w.drew k hdrew (Nat.le_refl _)
    rw [List.take_of_length_le (by rw [hsrc.len]; exact Nat.le_refl _)] at this
    rw [hsz]; exact this
  have hneww : (Builtin.firstCells i.size k (x.den ρ)).run P w = .ok (SV.denL ρ new).toArray w := by
    have := hsrc.first w k H (Nat.le_refl _)
    rw [List.take_of_length_le (by rw [hsrc.len]; exact Nat.le_refl _)] at this
    rw [hsz]; exact this
  have hfit : ∀ sLen sCap, sCap < sLen + k → sLen + k ≤ 100000000 → Builtin.nextslicecap (sLen + k) sCap * i.bytes ≤ 281474976710656 := by
    intro sLen sCap h1 h2
    refine growslice_fits h1 ?_
    have : (sLen + k) * i.bytes ≤ 100000000 * 1000000 := Nat.mul_le_mul h2 (by omega)
    omega
  have hzs : z.cells.size = te.size := by rw [hzc ρ]; simp [denL_length, hzl]
  -- what the growing arm leaves
  have grow : ∀ (h0 : SHeap), (∀ k p, lk h0 k = some p → lk h k = some p) → ∀ (base : Option Addr) (sLen sCap : Nat) (old : List SV), s.den ρ = .slice base sLen sCap → old.length = sLen * te.size → (∀ m ∈ SV.namesL old, m < nx) → (Builtin.firstCells i.size sLen (.slice base sLen sCap)).run P w.drew = .ok (SV.denL ρ old).toArray w.drew → ¬ sLen + k ≤ sCap → sLen + k ≤ 100000000 →
      ORok P ρ b0 h nx w (do pure (.value (← Builtin.append_ #[t, u] ty #[s.den ρ, x.den ρ]))) (newRowS h0 nx (old ++ new) e te.size (sLen + k)) := by
    intro h0 hsub0 base sLen sCap old hs hol hon hold hroom hbig
    have hr := append_grow (ty := ty) ht hu hd hi hz (hsrc.lenOf w) hold hnewd hroom (by omega) (hfit sLen sCap (by omega) hbig)
    have hge := grownCap_ge w (sLen + k) sCap e
    have hle := grownCap_le_maxLen w (sLen + k) sCap e (by simp [maxLen]; omega)
    refine newRow_ok H hn hsub0 (S := do pure (.value (← Builtin.append_ #[t, u] ty #[s.den ρ, x.den ρ]))) (cap := grownCap w (sLen + k) sCap e) (rest := Builtin.zeroCells z.cells (grownCap w (sLen + k) sCap e - (sLen + k))) (lo := 0) (hi := 0) (w' := w.drew.alloc (.cells ((SV.denL ρ old).toArray ++ (SV.denL ρ new).toArray ++ Builtin.zeroCells z.cells (grownCap w (sLen + k) sCap e - (sLen + k))) e)) ⟨w.drew, hdrew, rfl, ?_, rfl, rfl, rfl⟩ ?_ (.inl (Nat.le_refl _)) ?_ hle hpos ?_
    · show (w.drew.heap.push _) = _
      congr 2
      rw [denL_append]; simp
    · rw [Sem.run_bind, hs, hr]; rfl
    · rw [List.length_append, hol, hsrc.len, size_zeroCells, hzs, ← Nat.add_mul, ← Nat.add_mul]
      congr 1; omega
    · intro m hm
      obtain ⟨v, hv, hm2⟩ := mem_namesL.1 hm
      rcases List.mem_append.1 hv with hv | hv
      · exact hon m (mem_namesL.2 ⟨v, hv, hm2⟩)
      · exact hsrc.names m (mem_namesL.2 ⟨v, hv, hm2⟩)
  unfold appendTo
  split
  · -- nil
    split
    · rename_i hk0
      have : k = 0 := by simpa using hk0
      subst this
      refine okSame H hn _ ?_ (fun m hm => by cases hm)
      have hn0 : new = [] := List.eq_nil_of_length_eq_zero (by simpa using hsrc.len)
      have := append_nil0 (ty := ty) (w := w) ht hu hd hi (hsrc.lenOf w) (by rw [hneww, hn0]; rfl)
      rw [Sem.run_bind]
      simp only [SV.den]
      rw [this]; rfl
    · rename_i hk0
      have hk0' : ¬ k = 0 := by simpa using hk0
      have := grow h (fun k p hp => hp) none 0 0 [] rfl (by simp) (by simp [SV.namesL]) (by simp [Builtin.firstCells, SV.denL]) (by omega) (by omega)
      simpa using this
  · rename_i n off len cap
    split
    · rename_i cs o hcs hlk
      have hcs' : o.cs = some cs := by
        obtain ⟨o', h1, h2⟩ := ocs_some hcs
        rw [hlk] at h1; cases h1; exact h2
      split
      · rename_i hroom
        have hroom' := Nat.le_of_ble_eq_true hroom
        split
        · rename_i hfitc
          have hfitc' := Nat.le_of_ble_eq_true hfitc
          obtain ⟨w', hst, hmv⟩ := write_ok (P := P) H hn hlk hcs' hfitc' hone hsrc.names
          refine ⟨ρ, w', _, ?_, .inl rfl, hmv, fun m hm => hsn m (by simpa [SV.names] using hm)⟩
          rw [Sem.run_bind]
          simp only [SV.den]
          rw [append_in (ty := ty) ht hu hd hi (hsrc.lenOf w) hneww hroom' (by rw [hsz]; exact hst)]; rfl
        · trivial
      · rename_i hroom
        have hroom' : ¬ len + k ≤ cap := fun hh => hroom (Nat.ble_eq_true_of_le hh)
        split
        · rename_i hle
          have hle' := Nat.le_of_ble_eq_true hle
          split
          · rename_i hc
            have hc' := Nat.le_of_ble_eq_true hc
            obtain ⟨obj, ho, hR⟩ := H.at_ n _ hlk
            obtain ⟨_, _, _, _, _, _, _, hsub, _⟩ := obj_cells hR hcs'
            refine grow h (fun k p hp => hp) (some ⟨ρ.a n, off, none⟩) len cap ((cs.drop off).take (len * te.size)) rfl (by simp; omega) ?_ ?_ hroom' ?_
            · intro m hm
              obtain ⟨v, hv, hm2⟩ := mem_namesL.1 hm
              exact (hn n o hlk).2 m (hsub m (mem_namesL.2 ⟨v, List.mem_of_mem_drop (List.mem_of_mem_take hv), hm2⟩))
            · have := run_firstCells_some (P := P) w.drew i.size len ⟨ρ.a n, off, none⟩ len cap (SV.denL ρ ((cs.drop off).take (len * te.size))) (by rw [denL_length, hsz]; simp; omega) ?_
              · exact this
              · intro j v hj
                rw [denL_get, List.getElem?_take] at hj
                split at hj
                · rw [List.getElem?_drop] at hj
                  cases hq2 : cs[off + j]? with
                  | none => simp [hq2] at hj
                  | some u =>
                    simp [hq2] at hj
                    rw [addr_add, cell_at hdrew hlk hcs' hq2, hj]
                · simp at hj
            · omega
          · trivial
        · trivial
    · trivial
  · rename_i n cn sz off len
    split
    · rename_i cs u' dn zs hlk
      split
      · rename_i q0
        split
        · rename_i q1
          split
          · rename_i q2
            split
            · rename_i q3
              split
              · rename_i q4
                split
                · rename_i q5
                  split
                  · rename_i q6
                    have q0' : off = 0 := by simpa using q0
                    have q1' : zs = sz := by simpa using q1
                    have q2' : dn = cn := by simpa using q2
                    have q3' : sz = te.size := by simpa using q3
                    have q6' : u' = e := by simpa using q6
                    have q4' := Nat.le_of_ble_eq_true q4
                    have q5' := Nat.le_of_ble_eq_true q5
                    subst q0'; subst q1'; subst q2'; subst q3'; subst q6'
                    obtain ⟨obj, ho, hR⟩ := H.at_ n _ hlk
                    obtain ⟨rest, flo, fhi, rfl, hfz, hcap, hmx, _⟩ := hR
                    have hnc : len ≤ ρ.a dn := by
                      have : len * te.size ≤ ρ.a dn * te.size := by omega
                      exact Nat.le_of_mul_le_mul_right this hpos
                    split
                    · rename_i hk0
                      have : k = 0 := by simpa using hk0
                      subst this
                      have hn0 : new = [] := List.eq_nil_of_length_eq_zero (by simpa using hsrc.len)
                      refine okSame H hn _ ?_ hsn
                      rw [Sem.run_bind]
                      simp only [SV.den]
                      rw [append_in (ty := ty) (new := []) (w' := w) ht hu hd hi (hsrc.lenOf w) (by rw [hneww, hn0]; rfl) (by omega) (by simp [storeCells])]; rfl
                    · rename_i hk0
                      have hk0' : ¬ k = 0 := by simpa using hk0
                      have hsub0 : ∀ k p, lk (rmH n h) k = some p → lk h k = some p := by
                        intro m p hp
                        rw [lk_rmH] at hp
                        split at hp
                        · cases hp
                        · exact hp
                      have hcsn : ∀ m ∈ SV.namesL cs, m < nx := fun m hm => (hn n _ hlk).2 m (by simp [SObj.names, hm])
                      split
                      · rename_i hin
                        have hin' := Nat.le_of_ble_eq_true hin
                        have hnl := hsrc.len
                        have hroom : len + k ≤ ρ.a dn := by
                          have : (len + k) * te.size ≤ ρ.a dn * te.size := by rw [Nat.add_mul]; omega
                          exact Nat.le_of_mul_le_mul_right this hpos
                        obtain ⟨w', hst, hmv⟩ := write_ok (P := P) (off := len * te.size) H hn hlk rfl hin' hone hsrc.names
                        refine ⟨ρ, w', .value (.slice (some ⟨ρ.a n, 0 * te.size, none⟩) (len + k) (ρ.a dn - 0)), ?_, .inl ?_, hmv, fun m hm => hsn m (by simpa [SV.names] using hm)⟩
                        · rw [Sem.run_bind]
                          simp only [SV.den]
                          rw [append_in (ty := ty) (sCap := ρ.a dn - 0) ht hu hd hi (hsrc.lenOf w) hneww hroom (by rw [hsz, Nat.zero_mul, Nat.zero_add]; exact hst)]; rfl
                        · simp [SV.den]
                      rename_i hnin
                      by_cases hroom : len + k ≤ ρ.a dn
                      · have hnl := hsrc.len
                        have hsum : len * te.size + k * te.size ≤ ρ.a dn * te.size := by rw [← Nat.add_mul]; exact Nat.mul_le_mul_right _ hroom
                        have hst := storeCells_run (P := P) (ρ.a n) (0 * te.size + len * te.size) u' (flo, fhi) (SV.denL ρ new) 0 _ w ho (by simpa [denL_length] using hfz) (by simp [denL_length]; omega) (allOne_den ρ new hone)
                        simp only [Nat.add_zero] at hst
                        have hlt := H.lt hlk
                        have hv : w.heap[ρ.a n] = .cells ((SV.denL ρ cs).toArray ++ rest) u' (flo, fhi) := (Array.getElem?_eq_some_iff.1 ho).2
                        have hown := H.own n _ hlk
                        have g := ρ.set2_agr nx (ρ.a n) (ρ.a dn)
                        have hcell : (((SV.denL ρ cs).toArray ++ rest).toList.take (0 * te.size + len * te.size) ++ SV.denL ρ new ++ ((SV.denL ρ cs).toArray ++ rest).toList.drop (0 * te.size + len * te.size + (SV.denL ρ new).length)).toArray = (SV.denL ρ (cs.take (len * te.size) ++ new)).toArray ++ (((SV.denL ρ cs).toArray ++ rest).toList.drop (len * te.size + new.length)).toArray := by
                          apply Array.ext'
                          rw [denL_append, denL_take, denL_length]
                          simp only [Array.toList_append, List.append_assoc, Nat.zero_mul, Nat.zero_add]
                          rw [List.take_append_of_le_length (by simp [denL_length]; omega)]
                        have hold : ∀ l : List SV, (∀ m ∈ SV.namesL l, m < nx) → SV.denL (ρ.set2 nx (ρ.a n) (ρ.a dn)) l = SV.denL ρ l := fun l hl => SV.denL_agr g l (fun m hm => .inl (hl m hm))
                        have htn : ∀ m ∈ SV.namesL (cs.take (len * te.size) ++ new), m < nx := by
                          intro m hm
                          obtain ⟨v, hv, hm2⟩ := mem_namesL.1 hm
                          rcases List.mem_append.1 hv with hv | hv
                          · exact hcsn m (mem_namesL.2 ⟨v, List.mem_of_mem_take hv, hm2⟩)
                          · exact hsrc.names m (mem_namesL.2 ⟨v, hv, hm2⟩)
                        obtain ⟨CS, hCS⟩ : ∃ CS, CS = (((SV.denL ρ cs).toArray ++ rest).toList.take (0 * te.size + len * te.size) ++ SV.denL ρ new ++ ((SV.denL ρ cs).toArray ++ rest).toList.drop (0 * te.size + len * te.size + (SV.denL ρ new).length)).toArray := ⟨_, rfl⟩
                        rw [← hCS] at hst hcell
                        have hoth : ∀ k, k ≠ ρ.a n → (w.setRow (ρ.a n) CS).heap[k]? = w.heap[k]? := fun k hk => setRow_other w (ρ.a n) k _ hk
                        refine ⟨ρ.set2 nx (ρ.a n) (ρ.a dn), w.setRow (ρ.a n) CS, .value (.slice (some ⟨ρ.a n, 0 * te.size, none⟩) (len + k) (ρ.a dn - 0)), ?_, .inl ?_, Move.row H hn hsub0 ?_ (by simp) (.inr ⟨n, _, hlk, rfl, by rw [lk_rmH]; simp⟩) (setRow_heap w (ρ.a n) _ CS u' (flo, fhi) ho) ?_ ?_ ?_ ?_, ?_⟩
                        · rw [Sem.run_bind]
                          simp only [SV.den]
                          rw [append_in (ty := ty) (sCap := ρ.a dn - 0) ht hu hd hi (hsrc.lenOf w) hneww hroom (by rw [hsz]; exact hst)]; rfl
                        · simp [SV.den, Rho.set2_a, Rho.set2_c]
                        · refine ⟨H.g0.os, H.g0.tape, H.g0.output, by simpa using H.g0.size, fun k hk hne => ?_⟩
                          rw [hoth k (by omega)]; exact H.g0.block k hk hne
                        · intro m p hp
                          rw [lk_rmH] at hp
                          split at hp
                          · cases hp
                          · rename_i hmn
                            exact hoth _ (fun he => hmn (H.inj m n p _ hp hlk he))
                        · intro k hk hne
                          exact hoth k (fun he => hne n _ hlk he.symm)
                        · refine ⟨(((SV.denL ρ cs).toArray ++ rest).toList.drop (len * te.size + new.length)).toArray, flo, fhi, ?_, ?_, ?_, by rw [Rho.set2_c]; exact hmx, hpos⟩
                          · rw [hcell, hold _ htn]
                          · simp [denL_length]; omega
                          · rw [Rho.set2_c]
                            simp [denL_length]; omega
                        · intro m hm
                          simp only [SObj.names, List.mem_cons] at hm
                          rcases hm with rfl | hm
                          · omega
                          · have := htn m hm; omega
                        · intro m hm
                          simp only [SV.names, List.mem_cons, List.not_mem_nil, or_false] at hm
                          omega
                      · refine grow (rmH n h) hsub0 (some ⟨ρ.a n, 0 * te.size, none⟩) len (ρ.a dn - 0) (cs.take (len * te.size)) rfl (by simp; omega) ?_ ?_ (by omega) (by omega)
                        · intro m hm
                          obtain ⟨v, hv, hm2⟩ := mem_namesL.1 hm
                          exact hcsn m (mem_namesL.2 ⟨v, List.mem_of_mem_take hv, hm2⟩)
                        · have := run_firstCells_some (P := P) w.drew i.size len ⟨ρ.a n, 0 * te.size, none⟩ len (ρ.a dn - 0) (SV.denL ρ (cs.take (len * te.size))) (by rw [denL_length, hsz]; simp; omega) ?_
                          · exact this
                          · intro j v hj
                            rw [denL_get, List.getElem?_take] at hj
                            split at hj
                            · cases hq2 : cs[j]? with
                              | none => simp [hq2] at hj
                              | some u =>
                                simp [hq2] at hj
                                rw [addr_add, Nat.zero_mul, Nat.zero_add, cell_at hdrew hlk rfl hq2, hj]
                            · simp at hj
                  · trivial
                · trivial
              · trivial
            · trivial
          · trivial
        · trivial
      · trivial
    · trivial
  · trivial
theorem copyTo_ok (hT : T.Ok P) (H : HeapR ρ b0 h w) (hn : HNames nx h) {t t2 ty e : TypeId} {te : TI} (ht : P.underlying t = some (.slice e)) (hte : T.ty.get e = some te) {k : Nat} {new : List SV} {x : SV} (hsrc : Src P ρ b0 h nx te.size x k new) (hone : allOne new = true) {n off len cap : Nat} {s : Value} (hs : s = .slice (some ⟨ρ.a n, off, none⟩) len cap) :
    ORok P ρ b0 h nx w (do pure (.value (← Builtin.copy_ #[t, t2] ty #[s, x.den ρ]))) (copyTo h nx n off (Nat.min k len) (new.take (Nat.min k len * te.size))) := by
  obtain ⟨i, z, hi, hsz, hz, hzc, hib⟩ := (hT.ty _ te hte).info
  unfold copyTo
  split
  · rename_i o hlk
    split
    · rename_i cs hcs
      split
      · rename_i hle
        have hle' := Nat.le_of_ble_eq_true hle
        have hone' : allOne (new.take (Nat.min k len * te.size)) = true := by
          have : ∀ (l : List SV) (q : Nat), allOne l = true → allOne (l.take q) = true := by
            intro l
            induction l with
            | nil => intro q _; simp [allOne]
            | cons a l ih =>
              intro q hl
              cases q with
              | zero => simp [allOne]
              | succ q =>
                simp only [allOne] at hl
                split at hl
                · rename_i h1; simp [allOne, h1, ih q hl]
                · cases hl
          exact this _ _ hone
        obtain ⟨w', hst, hmv⟩ := write_ok (P := P) H hn hlk hcs hle' hone' (fun m hm => by
          obtain ⟨v, hv, hm2⟩ := mem_namesL.1 hm
          exact hsrc.names m (mem_namesL.2 ⟨v, List.mem_of_mem_take hv, hm2⟩))
        have hf := hsrc.first w (Nat.min k len) H (Nat.min_le_left _ _)
        refine ⟨ρ, w', _, ?_, .inl rfl, hmv, fun m hm => by cases hm⟩
        rw [Sem.run_bind, hs]
        have : (Builtin.copy_ #[t, t2] ty #[.slice (some ⟨ρ.a n, off, none⟩) len cap, x.den ρ]).run P w = .ok (goInt (Nat.min k len)) w' := by
          have hl := hsrc.lenOf w
          simp only [Builtin.copy_]
          simp [run_underlying ht, sizeOf, typeInfo, hi, hl, hsz, hf, hst]
        rw [this]; rfl
      · trivial
    · trivial
  · trivial
end
end Go.Proofs.Ytjgkaimgocnkmab.Sx
