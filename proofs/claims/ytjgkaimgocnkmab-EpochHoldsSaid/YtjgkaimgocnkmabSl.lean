/- Arguments that are slices of flat things: columns. No condition. -/
import Derived.Test.YtjgkaimgocnkmabSq
import Derived.Test.YtjgkaimgocnkmabSc3
import Derived.Deep.Slices
import Derived.ChangeArms
set_option linter.unusedSimpArgs false
set_option linter.unusedVariables false
namespace Go.Proofs.Ytjgkaimgocnkmab
open Go
namespace Sx
/-- A cell of a kind, in its range. -/
def KV : CK → Value → Prop
  | .int k, v => ∃ n, v = .int k n ∧ kmin k ≤ n ∧ n ≤ kmax k
  | .bool, v => ∃ b, v = .bool b
def KVs (ks : List CK) (cs : List Value) : Prop := cs.length = ks.length ∧ ∀ (i : Nat) (k : CK) (v : Value), ks[i]? = some k → cs[i]? = some v → KV k v
def flatFs (P : Program) (chk : TypeId → List CK → Bool) : List Field → Nat → List CK → Bool
  | [], _, ks => (match ks with
    | [] => true
    | _ => false)
  | f :: fs, off, ks =>
    if Nat.beq f.offset off then (if Nat.ble (P.cellsOf f.type) ks.length then (if chk f.type (ks.take (P.cellsOf f.type)) then flatFs P chk fs (off + P.cellsOf f.type) (ks.drop (P.cellsOf f.type)) else false) else false) else false
def flatChk (P : Program) : Nat → TypeId → List CK → Bool
  | 0, _, _ => false
  | d + 1, t, ks =>
    match P.underlying t with
    | some (.int k) => isOneK (.int k) ks
    | some .bool => isOneK .bool ks
    | some (.struct fs) => if Nat.beq ks.length (P.cellsOf t) then flatFs P (flatChk P d) fs.toList 0 ks else false
    | _ => false
section
variable {H : Type} {enc : TypeId × Value → H} {P : Program} {w : World} {base : Nat} {spare : Nat → Bool} {held : Bool}
theorem wf_rng {k : IntKind} {n : Int} (h : (Lit.int k n).wf = true) : kmin k ≤ n ∧ n ≤ kmax k := by
  rw [kmin_eq, kmax_eq]
  simpa [Lit.wf] using h
theorem flat_ok : ∀ (d : Nat) (t : TypeId) (ks : List CK), flatChk P d t ks = true → ∀ (fuel : Nat) (cs : List Value) (x : DataW H × List MemPlace), DataW.trod enc P w base spare held fuel t cs = some x → KVs ks cs := by
  intro d
  induction d with
  | zero => intro t ks h; simp [flatChk] at h
  | succ d ih =>
    intro t ks h fuel cs x hx
    simp only [flatChk] at h
    split at h
    · rename_i k hu
      obtain ⟨n, rfl, _, hwf⟩ := DataW.trod_int hu hx
      rw [isOneK_ok h]
      refine ⟨rfl, fun i k' v hi hv => ?_⟩
      cases i with
      | zero => simp at hi hv; subst hi; subst hv; exact ⟨n, rfl, wf_rng hwf⟩
      | succ i => simp at hi
    · rename_i hu
      obtain ⟨b, rfl, _⟩ := DataW.trod_bool hu hx
      rw [isOneK_ok h]
      refine ⟨rfl, fun i k' v hi hv => ?_⟩
      cases i with
      | zero => simp at hi hv; subst hi; subst hv; exact ⟨b, rfl⟩
      | succ i => simp at hi
    · rename_i fs hu
      split at h
      · rename_i hl
        have hl' := Nat.eq_of_beq_eq_true hl
        obtain ⟨xs, n, _, _, hlen, hxl, hf⟩ := DataW.trod_struct hu hx
        refine ⟨by rw [hlen, hl'], ?_⟩
        have key : ∀ (l : List Field) (off j : Nat) (ks' : List CK), flatFs P (flatChk P d) l off ks' = true → l = fs.toList.drop j → off + ks'.length ≤ cs.length →
            ∀ (i : Nat) (k : CK) (v : Value), ks'[i]? = some k → cs[off + i]? = some v → KV k v := by
          intro l
          induction l with
          | nil =>
            intro off j ks' hk _ _ i k v hi _
            simp only [flatFs] at hk
            split at hk
            · simp at hi
            · cases hk
          | cons f l ihl =>
            intro off j ks' hk hd hle i k v hi hv
            simp only [flatFs] at hk
            split at hk
            · rename_i ho
              have ho' := Nat.eq_of_beq_eq_true ho
              split at hk
              · rename_i hc
                have hc' := Nat.le_of_ble_eq_true hc
                split at hk
                · rename_i hchk
                  obtain ⟨q1, q2⟩ := getElem?_drop0 hd
                  have hfj : fs[j]? = some f := by rw [← Array.getElem?_toList]; exact q1
                  have hj : j < fs.size := (Array.getElem?_eq_some_iff.1 hfj).1
                  have hx1 := hf j f hfj
                  rw [List.getElem?_eq_getElem (by omega)] at hx1
                  by_cases hi2 : i < P.cellsOf f.type
                  · obtain ⟨k1, k2⟩ := ih f.type _ hchk n _ _ hx1
                    refine k2 i k v ?_ ?_
                    · rw [List.getElem?_take, if_pos hi2]; exact hi
                    · rw [List.getElem?_take, if_pos hi2, List.getElem?_drop, ho']; exact hv
                  · refine ihl (off + P.cellsOf f.type) (j + 1) _ hk q2 (by simp; omega) (i - P.cellsOf f.type) k v ?_ ?_
                    · rw [List.getElem?_drop]
                      rw [show P.cellsOf f.type + (i - P.cellsOf f.type) = i by omega]; exact hi
                    · rw [show off + P.cellsOf f.type + (i - P.cellsOf f.type) = off + i by omega]; exact hv
                · cases hk
              · cases hk
            · cases hk
        intro i k v hi hv
        exact key fs.toList 0 0 ks h (by simp) (by omega) i k v hi (by simpa using hv)
      · cases h
    · cases h
/-- A slice that came in: where it lies; each cell of it is of its kind. -/
structure RSl where
  a : Option Addr
  len : Nat
  cap : Nat
  ks : List CK
def RSl.at (r : RSl) : Addr := r.a.getD ⟨0, 0, none⟩
def RGood (w : World) (r : RSl) : Prop := r.len ≤ r.cap ∧ r.cap ≤ maxLen ∧ (0 < r.len → r.a.isSome = true) ∧ (∀ (i c : Nat) (k : CK), i < r.len → r.ks[c]? = some k → ∃ v, w.cell? ((r.at.add (i * r.ks.length)).add c) = some v ∧ KV k v)
theorem slice_good {t e : TypeId} {v : Value} {dd : DataW H} {ps : List MemPlace} {ks : List CK} (ht : P.underlying t = some (.slice e)) (hk : flatChk P 6 e ks = true) (hc : P.cellsOf e = ks.length) (hv : ∃ a l c, v = .slice a l c) (h : DataW.Trod enc P w base spare held t v dd ps) :
    ∃ a len cap, v = .slice a len cap ∧ RGood w ⟨a, len, cap, ks⟩ := by
  obtain ⟨a0, l0, c0, rfl⟩ := hv
  obtain ⟨fuel, hx⟩ := h
  rcases Go.Deep.open_slice ht hx with ⟨h0, _⟩ | ⟨a, len, cap, m, n, D, Pl, h0, hb, hl, hm, hmm, _, hel⟩
  · simp [Value.cells] at h0
    obtain ⟨rfl, rfl, rfl⟩ := h0
    refine ⟨none, 0, 0, rfl, Nat.le_refl _, Nat.zero_le _, fun h => absurd h (Nat.lt_irrefl _), fun i c k h _ => absurd h (Nat.not_lt_zero _)⟩
  · simp [Value.cells] at h0
    obtain ⟨rfl, rfl, rfl⟩ := h0
    refine ⟨some a, l0, c0, rfl, hl, hm, fun _ => rfl, ?_⟩
    intro i c k hi0 hc2
    have hi : i < l0 := hi0
    have hi' : i < m := by rw [hmm]; split <;> omega
    obtain ⟨cs', h1, h2⟩ := hel i hi'
    obtain ⟨q1, q2⟩ := flat_ok 6 e ks hk n cs' _ h2
    obtain ⟨_, r2, r3⟩ := World.cells?_some h1
    have hcl : c < ks.length := (List.getElem?_eq_some_iff.1 hc2).1
    have hcs : c < cs'.length := by omega
    refine ⟨cs'[c], ?_, q2 c k _ hc2 (List.getElem?_eq_getElem hcs)⟩
    rw [hc] at r3
    show w.cell? ((a.add (i * ks.length)).add c) = _
    rw [r3 c hcl, List.getElem?_eq_getElem hcs]
end
theorem cell_slice {P : Program} {w : World} {r : Reach} {base : Nat} {t e : TypeId} {v : Value} (hu : P.underlying t = some (.slice e)) (h : Cell.okWide P w r base t v) : ∃ a l c, v = .slice a l c := by
  simp only [Cell.okWide, Cell.ok, hu] at h
  cases v <;> simp at h
  exact ⟨_, _, _, rfl⟩
/- letters: of slice r, column c: r * 100 + c -/
def clampK (k : IntKind) (n : Int) : Int := if kmin k ≤ n ∧ n ≤ kmax k then n else 0
theorem clampK_in {k : IntKind} {n : Int} (h : kmin k ≤ n ∧ n ≤ kmax k) : clampK k n = n := by simp [clampK, h]
theorem clampK_lo (k : IntKind) (n : Int) : kmin k ≤ clampK k n := by
  unfold clampK; split
  · rename_i h; exact h.1
  · exact k0_lo k
theorem clampK_hi (k : IntKind) (n : Int) : clampK k n ≤ kmax k := by
  unfold clampK; split
  · rename_i h; exact h.2
  · exact k0_hi k
def intV : Option Value → Int
  | some (.int _ n) => n
  | _ => 0
def boolV : Option Value → Bool
  | some (.bool b) => b
  | _ => false
def valV : Option Value → Value
  | some v => v
  | none => .bool false
def cellOf (w : World) (rs : Nat → RSl) (n : Nat) (i : Int) : Option Value := w.cell? (((rs (n / 100)).at.add (i.toNat * (rs (n / 100)).ks.length)).add (n % 100))
def envOf (w : World) (rs : Nat → RSl) : Env :=
  { f := fun k n i => clampK k (intV (cellOf w rs n i)), g := fun n i => boolV (cellOf w rs n i), h := fun n i => valV (cellOf w rs n i), ra := fun r => (rs r).a, rb := fun r => (rs r).at.block, ro := fun r => (rs r).at.off, rn := fun r => (rs r).len, rc := fun r => (rs r).cap, re := fun r => (rs r).ks.length }
def colsOf (r : Nat) : Nat → List CK → List Col
  | _, [] => []
  | c, .int k :: l => .int k (r * 100 + c) :: colsOf r (c + 1) l
  | c, .bool :: l => .bool (r * 100 + c) :: colsOf r (c + 1) l
theorem colsOf_get (r : Nat) : ∀ (l : List CK) (c0 c : Nat), (colsOf r c0 l)[c]? = (l[c]?).map fun k => match k with
    | .int k => Col.int k (r * 100 + (c0 + c))
    | .bool => Col.bool (r * 100 + (c0 + c))
  | [], c0, c => by simp [colsOf]
  | k :: l, c0, c => by
    cases c with
    | zero => cases k <;> simp [colsOf]
    | succ c =>
      have := colsOf_get r l (c0 + 1) c
      cases k <;> simp [colsOf, this, show c0 + 1 + c = c0 + (c + 1) by omega]
theorem colsOf_length (r : Nat) : ∀ (l : List CK) (c0 : Nat), (colsOf r c0 l).length = l.length
  | [], _ => rfl
  | k :: l, c0 => by cases k <;> simp [colsOf, colsOf_length r l]
/-- The table of what came in. -/
def romT : List (Nat × List CK) → List (Nat × (Nat × List Col))
  | [] => []
  | (r, ks) :: l => (r, (ks.length, colsOf r 0 ks)) :: romT l
theorem rom_ok {l : List Orac} {w : World} {rs : Nat → RSl} {tb : List (Nat × List CK)} (h : ∀ r ks, lk tb r = some ks → (rs r).ks = ks ∧ ks.length < 100 ∧ ks ≠ [] ∧ RGood w (rs r)) {ρ : Rho} (hz : ρ.z = envOf w rs) : RomOk ⟨l, romT tb⟩ w ρ := by
  have hlk : ∀ (tb : List (Nat × List CK)) r esz cl, lk (romT tb) r = some (esz, cl) → ∃ ks, lk tb r = some ks ∧ esz = ks.length ∧ cl = colsOf r 0 ks := by
    intro tb
    induction tb with
    | nil => intro r esz cl h; simp [romT, lk_nil] at h
    | cons p tb ih =>
      obtain ⟨q, ks⟩ := p
      intro r esz cl h
      simp only [romT, lk_cons] at h
      rw [lk_cons]
      split at h
      · rename_i e; subst e
        simp at h
        exact ⟨ks, by simp, h.1.symm, h.2.symm⟩
      · rename_i e
        rw [if_neg e]
        exact ih r esz cl h
  intro r esz cl hr
  obtain ⟨ks, h1, rfl, rfl⟩ := hlk tb r esz cl hr
  obtain ⟨e1, e2, e3, g1, g2, g4, g3⟩ := h r ks h1
  have hpos : 0 < ks.length := List.length_pos_iff.2 e3
  have hspot : 0 < (rs r).len → (rs r).at.spot = none ∧ (rs r).at.block < w.heap.size := by
    intro hl
    obtain ⟨k0, hk0⟩ : ∃ k, (rs r).ks[0]? = some k := by
      cases hk : (rs r).ks with
      | nil => rw [hk] at e1; rw [← e1] at hpos; simp at hpos
      | cons k l => exact ⟨k, rfl⟩
    obtain ⟨v, hv, _⟩ := g3 0 0 k0 hl hk0
    simp [Addr.add] at hv
    refine ⟨World.cell?_spot hv, ?_⟩
    unfold World.cell? at hv
    split at hv
    · rename_i hh; exact (Array.getElem?_eq_some_iff.1 hh).1
    · cases hv
  rw [hz]
  refine ⟨by simp [envOf, e1], ?_, g1, ?_⟩
  · intro hl
    obtain ⟨s1, s2⟩ := hspot hl
    refine ⟨?_, s2⟩
    simp only [envOf]
    have hs := g4 hl
    unfold RSl.at at s1 ⊢
    cases hA : (rs r).a with
    | none => rw [hA] at hs; cases hs
    | some ad =>
      rw [hA] at s1
      obtain ⟨b, o, s⟩ := ad
      simp at s1; subst s1; rfl
  · intro i c col hi hcol hc
    simp only [envOf] at hi ⊢
    obtain ⟨s1, s2⟩ := hspot (by omega)
    rw [colsOf_get] at hcol
    cases hk : ks[c]? with
    | none => simp [hk] at hcol
    | some k =>
      obtain ⟨v, hv, hkv⟩ := g3 i c k hi (by rw [e1]; exact hk)
      have haddr : ((rs r).at.add (i * (rs r).ks.length)).add c = ⟨(rs r).at.block, (rs r).at.off + i * ks.length + c, none⟩ := by
        cases hA : (rs r).at with
        | mk b o s =>
          rw [hA] at s1; simp at s1; subst s1
          rw [addr_add, addr_add, e1]
      have hcell : cellOf w rs (r * 100 + c) (i : Int) = some v := by
        unfold cellOf
        have q1 : (r * 100 + c) / 100 = r := by omega
        have q2 : (r * 100 + c) % 100 = c := by omega
        rw [q1, q2]; simpa using hv
      rw [← haddr, hv]
      simp only [hk, Option.map_some, Option.some.injEq, Nat.zero_add] at hcol
      subst hcol
      cases k with
      | int k =>
        obtain ⟨n, rfl, hn⟩ := hkv
        simp [colVal, hcell, intV, clampK_in hn]
      | bool =>
        obtain ⟨b, rfl⟩ := hkv
        simp [colVal, hcell, boolV]
/-- Letters, given, with columns. -/
def rhoZ (l : List Num) (bs : List Bool) (z : Env) : Rho := { rho l bs with z := z }
theorem rhoZ_ok {l : List Num} {bs : List Bool} {w : World} {rs : Nat → RSl} (h : NumsOk l) (hr : ∀ r, (rs r).len ≤ maxLen) : (rhoZ l bs (envOf w rs)).Ok :=
  ⟨fun k n => (rho_ok' h k n).1, fun k n => (rho_ok' h k n).2, fun k _ _ => clampK_lo k _, fun k _ _ => clampK_hi k _, fun r => by
    have := hr r
    simp only [maxLen] at this
    show ((rs r).len : Int) ≤ 9223372036854775807
    omega⟩
end Sx
end Go.Proofs.Ytjgkaimgocnkmab
