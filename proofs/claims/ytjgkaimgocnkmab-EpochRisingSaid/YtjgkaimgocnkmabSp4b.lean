/- A reckoner of Go's small steps over letters: slices, bytes, what grows. No condition. -/
import Derived.Test.YtjgkaimgocnkmabSp4
import Derived.Laws.MakeOwn
set_option linter.unusedVariables false
set_option linter.unusedSimpArgs false
namespace Go.Proofs.Ytjgkaimgocnkmab.Sx
open Go
section
variable {P : Program} {T : Tab} {ρ : Rho} {b0 : World} {pc : List BE} {h : SHeap} {nx : Nat} {w : World} {sl : Slots} {a : Act} {S : Sem Next}
theorem drewN_heap (H : HeapR ρ b0 h w) : HeapR ρ b0 h { w with drawn := w.drawn + 1 } :=
  ⟨⟨H.g0.os, H.g0.tape, H.g0.output, H.g0.size, H.g0.block⟩, H.at_, H.own, H.inj⟩
theorem beq_no {m l : Nat} (h : ¬ m = l) : Nat.beq m l = false := by
  cases hb : Nat.beq m l with
  | false => rfl
  | true => exact absurd (Nat.eq_of_beq_eq_true hb) h

/- numbers that are known -/
theorem litN_ok (v : SV) (n : Nat) (h : litN v = some n) : ∃ k, ∀ ρ, v.den ρ = .int k (n : Int) := by
  unfold litN at h
  split at h
  · cases h; exact ⟨_, fun ρ => rfl⟩
  · cases h
theorem bound_ok (k : IntKind) (n y : Nat) (c : BoundsCode) (h : n ≤ y) : (Instr.sliceBound (.int k (n : Int)) y c).run P w = .ok n w := by
  have : (n : Int) ≤ (y : Int) := by omega
  simp [Instr.sliceBound, asIntOf, this]
theorem three_ok (hsl : SlotsR ρ sl a.tmps) {len cap C l u m : Nat} {lo hi mx : Option Operand} (isS : Bool) (h : three sl len cap lo hi mx = some (l, u, m)) (hC : mx = none → C = cap) (hle : cap ≤ C) :
    (Instr.sliceBounds isS len C (lo.map a.eval) (hi.map a.eval) (mx.map a.eval)).run P w = .ok (l, u, m) w ∧ l ≤ u ∧ u ≤ m ∧ m ≤ cap := by
  unfold three at h
  split at h
  · rename_i m' u' l' hm hu hl
    split at h
    · rename_i h1
      split at h
      · rename_i h2
        split at h
        · rename_i h3
          have h1' := Nat.le_of_ble_eq_true h1
          have h2' := Nat.le_of_ble_eq_true h2
          have h3' := Nat.le_of_ble_eq_true h3
          have fin : ∀ {x y z : Nat}, some (x, y, z) = some (l, u, m) → x = l ∧ y = u ∧ z = m := by intro x y z e; cases e; exact ⟨rfl, rfl, rfl⟩
          have ev : ∀ (x : Operand) (n : Nat), litN (ev sl x) = some n → ∃ k, a.eval x = .int k (n : Int) := by
            intro x n hx
            obtain ⟨k, hk⟩ := litN_ok _ _ hx
            exact ⟨k, by rw [ev_den hsl, hk]⟩
          cases mx with
          | none =>
            simp only [litOr, Option.some.injEq] at hm
            subst hm
            obtain ⟨e1, e2, e3⟩ := fin h
            subst e1; subst e2; subst e3
            have hC' := hC rfl
            subst hC'
            refine ⟨?_, h3', h2', h1'⟩
            cases hi with
            | none =>
              simp only [litOr, Option.some.injEq] at hu
              subst hu
              cases lo with
              | none =>
                simp only [litOr, Option.some.injEq] at hl
                subst hl
                simp [Instr.sliceBounds]
              | some x =>
                obtain ⟨k, hk⟩ := ev x _ hl
                simp [Instr.sliceBounds, hk, bound_ok k _ _ _ h3']
            | some y =>
              obtain ⟨j, hj⟩ := ev y _ hu
              cases lo with
              | none =>
                simp only [litOr, Option.some.injEq] at hl
                subst hl
                simp [Instr.sliceBounds, hj, bound_ok j _ _ _ h2']
              | some x =>
                obtain ⟨k, hk⟩ := ev x _ hl
                simp [Instr.sliceBounds, hk, hj, bound_ok k _ _ _ h3', bound_ok j _ _ _ h2']
          | some z =>
            cases hi with
            | none => cases h
            | some y =>
              obtain ⟨e1, e2, e3⟩ := fin h
              subst e1; subst e2; subst e3
              obtain ⟨i, hi'⟩ := ev z _ hm
              obtain ⟨j, hj⟩ := ev y _ hu
              refine ⟨?_, h3', h2', h1'⟩
              have h1'' := Nat.le_trans h1' hle
              cases lo with
              | none =>
                simp only [litOr, Option.some.injEq] at hl
                subst hl
                simp [Instr.sliceBounds, hi', hj, bound_ok i _ _ _ h1'', bound_ok j _ _ _ h2']
              | some x =>
                obtain ⟨k, hk⟩ := ev x _ hl
                simp [Instr.sliceBounds, hk, hi', hj, bound_ok i _ _ _ h1'', bound_ok k _ _ _ h3', bound_ok j _ _ _ h2']
        · cases h
      · cases h
    · cases h
  · cases h
theorem addr_add (b o n : Nat) : (⟨b, o, none⟩ : Addr).add n = ⟨b, o + n, none⟩ := by
  unfold Addr.add; split <;> simp_all
theorem slice_ok (hT : T.Ok P) (H : HeapR ρ b0 h w) (hn : HNames nx h) (hsl : SlotsR ρ sl a.tmps) (hs : SNames nx sl) (t : TypeId) (x : Operand) (lo hi mx : Option Operand) :
    ORok P ρ b0 h nx w (do pure (.value (← Instr.sliceAt t (a.eval x) (lo.map a.eval) (hi.map a.eval) (mx.map a.eval)))) (opSlice T h nx sl t x lo hi mx) := by
  have hx := ev_names hs x
  unfold opSlice
  rw [ev_den hsl x]
  split
  · rename_i ti hti
    obtain ⟨d, hd, hst, _⟩ := (hT.ty t ti hti).und
    split
    · -- strings
      rename_i bs hu he
      rw [hu] at hst
      simp only [StOk] at hst
      subst hst
      rw [he]
      split
      · split
        · rename_i l u m h3
          obtain ⟨r1, r2, r3, r4⟩ := three_ok (P := P) (w := w) hsl false h3 (fun _ => rfl) (Nat.le_refl _)
          refine okSame H hn _ ?_ (fun m hm => by cases hm)
          simp only [Option.map_none] at r1 ⊢
          have hsz : (bytesOf (bs.map (IE.den ρ))).size = bs.length := by rw [bytesOf_size]; simp
          have hex : (bytesOf (bs.map (IE.den ρ))).extract l u = bytesOf (((bs.take u).drop l).map (IE.den ρ)) := by
            apply ByteArray.ext
            rw [ByteArray.data_extract]
            apply Array.ext'
            simp [bytesOf, List.map_drop, List.map_take, List.drop_take]
          simp [Instr.sliceAt, Instr.slice, run_underlying hd, SV.den, hsz, r1, hex]
        · trivial
      · trivial
    · rename_i e n off len cap hu he
      rw [hu] at hst
      simp only [StOk] at hst
      subst hst
      rw [he] at hx ⊢
      split
      · rename_i te hte
        obtain ⟨i', z, hi', hsz, _, _, _⟩ := (hT.ty _ te hte).info
        unfold sliceOf
        split
        · rename_i l u m h3
          obtain ⟨r1, r2, r3, r4⟩ := three_ok (P := P) (w := w) hsl true h3 (fun _ => rfl) (Nat.le_refl _)
          refine okSame H hn _ ?_ (fun m hm => hx m (by simpa [SV.names] using hm))
          by_cases hml : m = l
          · subst hml
            simp [Instr.sliceAt, Instr.slice, run_underlying hd, SV.den, r1, run_sizeOf' hi']
          · have hml' : Nat.beq m l = false := beq_no hml
            simp [Instr.sliceAt, Instr.slice, run_underlying hd, SV.den, r1, run_sizeOf' hi', hml, hml', addr_add, hsz]
        · trivial
      · trivial
    · rename_i len e n off hu he
      rw [hu] at hst
      simp only [StOk] at hst
      subst hst
      rw [he] at hx ⊢
      split
      · rename_i te hte
        obtain ⟨i', z, hi', hsz, _, _, _⟩ := (hT.ty _ te hte).info
        unfold sliceOf
        split
        · rename_i l u m h3
          obtain ⟨r1, r2, r3, r4⟩ := three_ok (P := P) (w := w) hsl false h3 (fun _ => rfl) (Nat.le_refl _)
          refine okSame H hn _ ?_ (fun m hm => hx m (by simpa [SV.names] using hm))
          by_cases hml : m = l
          · subst hml
            simp [Instr.sliceAt, run_underlying hd, SV.den, r1, run_sizeOf' hi', Instr.sureAddr]
          · have hml' : Nat.beq m l = false := beq_no hml
            simp [Instr.sliceAt, run_underlying hd, SV.den, r1, run_sizeOf' hi', hml, hml', addr_add, hsz, Instr.sureAddr]
        · trivial
      · trivial
    · rename_i e hu he
      rw [hu] at hst
      simp only [StOk] at hst
      subst hst
      rw [he]
      split
      · rename_i te p hte h3
        obtain ⟨l, u, m⟩ := p
        obtain ⟨r1, r2, r3, r4⟩ := three_ok (P := P) (w := w) hsl true h3 (fun _ => rfl) (Nat.le_refl _)
        have e1 : l = 0 := by omega
        have e2 : u = 0 := by omega
        have e3 : m = 0 := by omega
        subst e1; subst e2; subst e3
        obtain ⟨i', z, hi', hsz, _, _, _⟩ := (hT.ty _ te hte).info
        refine okSame H hn _ ?_ (fun m hm => by cases hm)
        simp [Instr.sliceAt, Instr.slice, run_underlying hd, SV.den, r1, run_sizeOf' hi']
      · trivial
    · rename_i e n cn sz off len hu he
      rw [hu] at hst
      simp only [StOk] at hst
      subst hst
      rw [he] at hx ⊢
      split
      · rename_i te cs rt dn zs hte hlk
        obtain ⟨i', z, hi', hsz, _, _, _⟩ := (hT.ty _ te hte).info
        split
        · rename_i q1
          split
          · rename_i q2
            split
            · rename_i q3
              have q1' : te.size = sz := by simpa using q1
              have q2' : zs = sz := by simpa using q2
              have q3' : dn = cn := by simpa using q3
              subst q2'
              subst q3'
              obtain ⟨obj, ho, hR⟩ := H.at_ n _ hlk
              obtain ⟨rest, flo, fhi, _, _, hcap, _, hpos⟩ := hR
              have incap : ∀ q, (off + q) * zs ≤ cs.length → q ≤ ρ.a dn - off := by
                intro q hq
                have : (off + q) * zs ≤ ρ.a dn * zs := by omega
                have := Nat.le_of_mul_le_mul_right this hpos
                omega
              split
              · -- two bounds
                split
                · rename_i u l hu' hl'
                  split
                  · rename_i h1
                    have h1' := Nat.le_of_ble_eq_true h1
                    split
                    · rename_i h2
                      have h2' := Nat.le_of_ble_eq_true h2
                      have hb := incap u h2'
                      have h3 : three sl len (ρ.a dn - off) lo hi none = some (l, u, ρ.a dn - off) ∨ True := .inr trivial
                      have r1 : (Instr.sliceBounds true len (ρ.a dn - off) (lo.map a.eval) (hi.map a.eval) none).run P w = .ok (l, u, ρ.a dn - off) w := by
                        have h4 : three sl len (ρ.a dn - off) lo hi none = some (l, u, ρ.a dn - off) := by
                          have b1 : Nat.ble (ρ.a dn - off) (ρ.a dn - off) = true := Nat.ble_eq_true_of_le (Nat.le_refl _)
                          have b2 : Nat.ble u (ρ.a dn - off) = true := Nat.ble_eq_true_of_le hb
                          have b0 : litOr (ρ.a dn - off) sl none = some (ρ.a dn - off) := rfl
                          unfold three
                          simp only [b0, hu', hl', b1, b2, h1, if_true]
                        exact (three_ok (P := P) (w := w) hsl true h4 (fun _ => rfl) (Nat.le_refl _)).1
                      simp only [Option.map_none]
                      split
                      · rename_i h5
                        have h5' : l = 0 := by simpa using h5
                        subst h5'
                        refine okSame H hn _ ?_ (fun m hm => hx m (by simpa [SV.names] using hm))
                        have e0 : (⟨ρ.a n, off * zs, none⟩ : Addr).add 0 = ⟨ρ.a n, off * zs, none⟩ := by simp [Addr.add]
                        simp [Instr.sliceAt, Instr.slice, run_underlying hd, SV.den, r1, run_sizeOf' hi', e0]
                      · split
                        · trivial
                        · rename_i h5 h6
                          have h5' : ¬ l = 0 := by simpa using h5
                          have h6' : ¬ u = l := by simpa using h6
                          have hml : ¬ (ρ.a dn - off = l) := by omega
                          refine okSame H hn _ ?_ (fun m hm => hx m (by simpa [SV.names] using hm))
                          simp [Instr.sliceAt, Instr.slice, run_underlying hd, SV.den, r1, run_sizeOf' hi', hml, addr_add, hsz, q1', Nat.add_mul, Nat.sub_sub]
                    · trivial
                  · trivial
                · trivial
              · -- three
                rename_i y
                split
                · rename_i m hm
                  split
                  · rename_i h2
                    have h2' := Nat.le_of_ble_eq_true h2
                    have hb := incap m h2'
                    unfold sliceOf
                    split
                    · rename_i l u m' h3
                      obtain ⟨r1, r2, r3, r4⟩ := three_ok (P := P) (w := w) (C := ρ.a dn - off) hsl true h3 (fun hh => by cases hh) hb
                      refine okSame H hn _ ?_ (fun m hm => hx m (by simp [SV.names] at hm ⊢; exact .inl hm))
                      by_cases hml : m' = l
                      · subst hml
                        simp only [Option.map_some] at r1 ⊢
                        simp [Instr.sliceAt, Instr.slice, run_underlying hd, SV.den, r1, run_sizeOf' hi']
                      · have hml' : Nat.beq m' l = false := beq_no hml
                        simp only [Option.map_some] at r1 ⊢
                        simp [Instr.sliceAt, Instr.slice, run_underlying hd, SV.den, r1, run_sizeOf' hi', hml, hml', addr_add, hsz, q1']
                    · trivial
                  · trivial
                · trivial
            · trivial
          · trivial
        · trivial
      · trivial
    · trivial
  · trivial
end
end Go.Proofs.Ytjgkaimgocnkmab.Sx
