/- Arguments that are slices of flat things: columns. No condition. -/
import Derived.Test.YtjgkaimgocnkmabSr
import Derived.Deep.Slices
import Derived.ChangeArms
set_option linter.unusedSimpArgs false
set_option linter.deprecated false
set_option linter.unusedVariables false
namespace Go.Proofs.Ytjgkaimgocnkmab
open Go
namespace Sx
/-- A cell of a kind, in its range. -/
def KV : CK → Value → Prop
  | .int k, v => ∃ n, v = .int k n ∧ kmin k ≤ n ∧ n ≤ kmax k
  | .bool, v => ∃ b, v = .bool b
  | _, _ => False
def KVs (ks : List CK) (cs : List Value) : Prop := cs.length = ks.length ∧ ∀ (i : Nat) (k : CK) (v : Value), ks[i]? = some k → cs[i]? = some v → KV k v
def flatFs (P : Program) (chk : TypeId → List CK → Bool) : List Field → Nat → List CK → Bool
  | [], _, ks => (match ks with
    | [] => true
    | _ => false)
  | f :: fs, off, ks =>
    if Nat.beq f.offset off then (if Nat.ble (P.cellsOf f.type) ks.length then (if chk f.type (ks.take (P.cellsOf f.type)) then flatFs P chk fs (off + P.cellsOf f.type) (ks.drop (P.cellsOf f.type)) else false) else false) else false
def flatChk (P : Program) : Nat → TypeId → List CK → Bool
  | 0, _, _ => false
  | d + 1, t, ks =>
    match P.underlying t with
    | some (.int k) => isOneK (.int k) ks
    | some .bool => isOneK .bool ks
    | some (.struct fs) => if Nat.beq ks.length (P.cellsOf t) then flatFs P (flatChk P d) fs.toList 0 ks else false
    | _ => false
section
variable {H : Type} {enc : TypeId × Value → H} {P : Program} {w : World} {base : Nat} {spare : Nat → Bool} {held : Bool}
theorem wf_rng {k : IntKind} {n : Int} (h : (Lit.int k n).wf = true) : kmin k ≤ n ∧ n ≤ kmax k := by
  rw [kmin_eq, kmax_eq]
  simpa [Lit.wf] using h
theorem flat_ok : ∀ (d : Nat) (t : TypeId) (ks : List CK), flatChk P d t ks = true → ∀ (fuel : Nat) (cs : List Value) (x : DataW H × List MemPlace), DataW.trod enc P w base spare held fuel t cs = some x → KVs ks cs := by
  intro d
  induction d with
  | zero => intro t ks h; simp [flatChk] at h
  | succ d ih =>
    intro t ks h fuel cs x hx
    simp only [flatChk] at h
    split at h
    · rename_i k hu
      obtain ⟨n, rfl, _, hwf⟩ := DataW.trod_int hu hx
      rw [isOneK_ok h]
      refine ⟨rfl, fun i k' v hi hv => ?_⟩
      cases i with
      | zero => simp at hi hv; subst hi; subst hv; exact ⟨n, rfl, wf_rng hwf⟩
      | succ i => simp at hi
    · rename_i hu
      obtain ⟨b, rfl, _⟩ := DataW.trod_bool hu hx
      rw [isOneK_ok h]
      refine ⟨rfl, fun i k' v hi hv => ?_⟩
      cases i with
      | zero => simp at hi hv; subst hi; subst hv; exact ⟨b, rfl⟩
      | succ i => simp at hi
    · rename_i fs hu
      split at h
      · rename_i hl
        have hl' := Nat.eq_of_beq_eq_true hl
        obtain ⟨xs, n, _, _, hlen, hxl, hf⟩ := DataW.trod_struct hu hx
        refine ⟨by rw [hlen, hl'], ?_⟩
        have key : ∀ (l : List Field) (off j : Nat) (ks' : List CK), flatFs P (flatChk P d) l off ks' = true → l = fs.toList.drop j → off + ks'.length ≤ cs.length →
            ∀ (i : Nat) (k : CK) (v : Value), ks'[i]? = some k → cs[off + i]? = some v → KV k v := by
          intro l
          induction l with
          | nil =>
            intro off j ks' hk _ _ i k v hi _
            simp only [flatFs] at hk
            split at hk
            · simp at hi
            · cases hk
          | cons f l ihl =>
            intro off j ks' hk hd hle i k v hi hv
            simp only [flatFs] at hk
            split at hk
            · rename_i ho
              have ho' := Nat.eq_of_beq_eq_true ho
              split at hk
              · rename_i hc
                have hc' := Nat.le_of_ble_eq_true hc
                split at hk
                · rename_i hchk
                  obtain ⟨q1, q2⟩ := getElem?_drop0 hd
                  have hfj : fs[j]? = some f := by rw [← Array.getElem?_toList]; exact q1
                  have hj : j < fs.size := (Array.getElem?_eq_some_iff.1 hfj).1
                  have hx1 := hf j f hfj
                  rw [List.getElem?_eq_getElem (by omega)] at hx1
                  by_cases hi2 : i < P.cellsOf f.type
                  · obtain ⟨k1, k2⟩ := ih f.type _ hchk n _ _ hx1
                    refine k2 i k v ?_ ?_
                    · rw [List.getElem?_take, if_pos hi2]; exact hi
                    · rw [List.getElem?_take, if_pos hi2, List.getElem?_drop, ho']; exact hv
                  · refine ihl (off + P.cellsOf f.type) (j + 1) _ hk q2 (by simp; omega) (i - P.cellsOf f.type) k v ?_ ?_
                    · rw [List.getElem?_drop]
                      rw [show P.cellsOf f.type + (i - P.cellsOf f.type) = i by omega]; exact hi
                    · rw [show off + P.cellsOf f.type + (i - P.cellsOf f.type) = off + i by omega]; exact hv
                · cases hk
              · cases hk
            · cases hk
        intro i k v hi hv
        exact key fs.toList 0 0 ks h (by simp) (by omega) i k v hi (by simpa using hv)
      · cases h
    · cases h
def RGood (w : World) (r : RSl) : Prop := r.len ≤ r.cap ∧ r.cap ≤ maxLen ∧ (0 < r.len → r.a.isSome = true) ∧ (∀ (i c : Nat) (k : CK), i < r.len → r.ks[c]? = some k → ∃ v, w.cell? ((r.at.add (i * r.ks.length)).add c) = some v ∧ KV k v)
theorem slice_good {t e : TypeId} {v : Value} {dd : DataW H} {ps : List MemPlace} {ks : List CK} (ht : P.underlying t = some (.slice e)) (hk : flatChk P 6 e ks = true) (hc : P.cellsOf e = ks.length) (hv : ∃ a l c, v = .slice a l c) (h : DataW.Trod enc P w base spare held t v dd ps) :
    ∃ a len cap, v = .slice a len cap ∧ RGood w ⟨a, len, cap, ks⟩ := by
  obtain ⟨a0, l0, c0, rfl⟩ := hv
  obtain ⟨fuel, hx⟩ := h
  rcases Go.Deep.open_slice ht hx with ⟨h0, _⟩ | ⟨a, len, cap, m, n, D, Pl, h0, hb, hl, hm, hmm, _, hel⟩
  · simp [Value.cells] at h0
    obtain ⟨rfl, rfl, rfl⟩ := h0
    refine ⟨none, 0, 0, rfl, Nat.le_refl _, Nat.zero_le _, fun h => absurd h (Nat.lt_irrefl _), fun i c k h _ => absurd h (Nat.not_lt_zero _)⟩
  · simp [Value.cells] at h0
    obtain ⟨rfl, rfl, rfl⟩ := h0
    refine ⟨some a, l0, c0, rfl, hl, hm, fun _ => rfl, ?_⟩
    intro i c k hi0 hc2
    have hi : i < l0 := hi0
    have hi' : i < m := by rw [hmm]; split <;> omega
    obtain ⟨cs', h1, h2⟩ := hel i hi'
    obtain ⟨q1, q2⟩ := flat_ok 6 e ks hk n cs' _ h2
    obtain ⟨_, r2, r3⟩ := World.cells?_some h1
    have hcl : c < ks.length := (List.getElem?_eq_some_iff.1 hc2).1
    have hcs : c < cs'.length := by omega
    refine ⟨cs'[c], ?_, q2 c k _ hc2 (List.getElem?_eq_getElem hcs)⟩
    rw [hc] at r3
    show w.cell? ((a.add (i * ks.length)).add c) = _
    rw [r3 c hcl, List.getElem?_eq_getElem hcs]
end
theorem cell_slice {P : Program} {w : World} {r : Reach} {base : Nat} {t e : TypeId} {v : Value} (hu : P.underlying t = some (.slice e)) (h : Cell.okWide P w r base t v) : ∃ a l c, v = .slice a l c := by
  simp only [Cell.okWide, Cell.ok, hu] at h
  cases v <;> simp at h
  exact ⟨_, _, _, rfl⟩
theorem kv_conf {k : CK} {v : Value} (h : KV k v) : conf1 k v = true := by
  cases k with
  | int k => obtain ⟨n, rfl, hn⟩ := h; exact conf1_of_int hn
  | bool => obtain ⟨b, rfl⟩ := h; rfl
  | str => exact False.elim h
  | any => exact False.elim h
theorem kvs_conf : ∀ {ks : List CK} {e : List Value}, e.length = ks.length → (∀ (i : Nat) (k : CK) (v : Value), ks[i]? = some k → e[i]? = some v → KV k v) → conf ks e = true
  | [], [], _, _ => rfl
  | [], _ :: _, h, _ => by simp at h
  | _ :: _, [], h, _ => by simp at h
  | k :: ks, v :: e, h, hk => by
    have h1 := kv_conf (hk 0 k v rfl rfl)
    have h2 := kvs_conf (ks := ks) (e := e) (by simpa using h) (fun i k' v' a b => hk (i + 1) k' v' a b)
    simp [conf, h1, h2]
/-- The slices that came in are as they are told. -/
theorem roms_ok {w : World} {rs : Nat → RSl} {F : Fns} {tb : Roms} (h : ∀ r esz ks, lk tb r = some (esz, ks) → (rs r).ks = ks ∧ ks.length = esz ∧ ks ≠ [] ∧ RGood w (rs r)) {ρ : Rho} (hz : ρ.z = envOf F w rs) (hgl : GlobOk F w := by exact Go.Proofs.Ytjgkaimgocnkmab.Sx.glob_nil rfl) : RomsOk tb w ρ := by
  refine ⟨by rw [hz]; exact hgl, ?_⟩
  intro r esz ks hr
  obtain ⟨e1, e2, e3, g1, g2, g4, g3⟩ := h r esz ks hr
  have hpos : 0 < ks.length := List.length_pos_iff.2 e3
  have hspot : 0 < (rs r).len → (rs r).at.spot = none ∧ (rs r).at.block < w.heap.size := by
    intro hl
    obtain ⟨k0, hk0⟩ : ∃ k, (rs r).ks[0]? = some k := by
      cases hk : (rs r).ks with
      | nil => rw [hk] at e1; rw [← e1] at hpos; simp at hpos
      | cons k l => exact ⟨k, rfl⟩
    obtain ⟨v, hv, _⟩ := g3 0 0 k0 hl hk0
    simp [Addr.add] at hv
    refine ⟨World.cell?_spot hv, ?_⟩
    unfold World.cell? at hv
    split at hv
    · rename_i hh; exact (Array.getElem?_eq_some_iff.1 hh).1
    · cases hv
  have hlen : (rowOf w (rs r)).length = (rs r).len := by simp [rowOf]
  have helem : ∀ (i : Nat) (e : List Value), (rowOf w (rs r))[i]? = some e → i < (rs r).len ∧ e = (List.range (rs r).ks.length).map fun c => valO (w.cell? (((rs r).at.add (i * (rs r).ks.length)).add c)) := by
    intro i e he
    unfold rowOf at he
    rw [List.getElem?_map] at he
    cases hq : (List.range (rs r).len)[i]? with
    | none => rw [hq] at he; cases he
    | some j =>
      rw [hq] at he
      simp only [Option.map_some, Option.some.injEq] at he
      obtain ⟨hq1, hq2⟩ := List.getElem?_eq_some_iff.1 hq
      simp at hq1 hq2
      subst hq2
      exact ⟨hq1, he.symm⟩
  have hcell : ∀ (i : Nat) (e : List Value), (rowOf w (rs r))[i]? = some e → ∀ (c : Nat) (v : Value), e[c]? = some v → c < ks.length ∧ w.cell? (((rs r).at.add (i * (rs r).ks.length)).add c) = some v ∧ ∀ k, ks[c]? = some k → KV k v := by
    intro i e he c v hv
    obtain ⟨hi, rfl⟩ := helem i e he
    rw [List.getElem?_map] at hv
    cases hq : (List.range (rs r).ks.length)[c]? with
    | none => rw [hq] at hv; cases hv
    | some j =>
      rw [hq] at hv
      obtain ⟨hq1, hq2⟩ := List.getElem?_eq_some_iff.1 hq
      simp at hq1 hq2
      subst hq2
      have hc : c < ks.length := by rw [← e1]; exact hq1
      obtain ⟨v', hv', hkv⟩ := g3 i c (ks[c]) hi (by rw [e1]; exact List.getElem?_eq_getElem hc)
      simp only [Option.map_some, Option.some.injEq, hv', valO] at hv
      subst hv
      refine ⟨hc, hv', fun k hk => ?_⟩
      rw [List.getElem?_eq_getElem hc] at hk
      cases hk; exact hkv
  rw [hz]
  refine ⟨e2, by simp [envOf, e1, e2], ?_, ?_, ?_, ?_⟩
  · intro e he
    obtain ⟨i, hi, he'⟩ := List.mem_iff_getElem.1 he
    have hget : (rowOf w (rs r))[i]? = some e := by rw [← he']; exact List.getElem?_eq_getElem hi
    have hl : e.length = ks.length := by
      obtain ⟨_, rfl⟩ := helem i e hget
      simp [e1]
    exact kvs_conf hl (fun c k v hk hv => (hcell i e hget c v hv).2.2 k hk)
  · intro hl
    simp only [envOf] at hl ⊢
    rw [hlen] at hl
    obtain ⟨s1, s2⟩ := hspot hl
    refine ⟨?_, s2⟩
    have hs := g4 hl
    unfold RSl.at at s1 ⊢
    cases hA : (rs r).a with
    | none => rw [hA] at hs; cases hs
    | some ad =>
      rw [hA] at s1
      obtain ⟨b, o, s⟩ := ad
      simp at s1; subst s1; rfl
  · simp only [envOf]; rw [hlen]; exact g1
  · intro i c e v he hv
    simp only [envOf] at he ⊢
    obtain ⟨hc, hv', _⟩ := hcell i e he c v hv
    obtain ⟨hi, _⟩ := helem i e he
    obtain ⟨s1, s2⟩ := hspot (by omega)
    have haddr : ((rs r).at.add (i * (rs r).ks.length)).add c = ⟨(rs r).at.block, (rs r).at.off + i * esz + c, none⟩ := by
      cases hA : (rs r).at with
      | mk b o s =>
        rw [hA] at s1; simp at s1; subst s1
        rw [addr_add, addr_add, e1, e2]
    rw [← haddr]; exact hv'
end Sx
end Go.Proofs.Ytjgkaimgocnkmab
