/- A reckoner of Go's small steps over letters: calls that are told ahead. No condition. -/
import Derived.Test.YtjgkaimgocnkmabSp8
set_option linter.unusedVariables false
set_option linter.unusedSimpArgs false
set_option linter.deprecated false
namespace Go.Proofs.Ytjgkaimgocnkmab.Sx
open Go
section
variable {P : Program} {T : Tab} {ρ : Rho} {b0 : World} {pc : List BE} {h : SHeap} {nx : Nat} {w : World}
/-- A slice that may be handed on, and its cells. -/
structure SlOk (ρ : Rho) (w : World) (sz : Nat) (v : Value) (l : LV) : Prop where
  den : ∃ base cap, v = .slice base l.length cap ∧ l.length ≤ cap ∧ (0 < l.length → ∃ b o, base = some ⟨b, o, none⟩ ∧ b < w.heap.size ∧ ∀ (i c : Nat) (e : List Value) (u : Value), l[i]? = some e → e[c]? = some u → w.cell? ⟨b, o + i * sz + c, none⟩ = some u)
theorem cell_block {w : World} {a : Addr} {v : Value} (h : w.cell? a = some v) (hs : a.spot = none) : a.block < w.heap.size := by
  obtain ⟨b, o, s⟩ := a
  simp only at hs
  subst hs
  exact World.block_lt_of_cell? w _ h
theorem slBlock (hρ : ρ.Ok) (hp : Holds ρ pc) (hn : HNames nx h) (H : HeapR ρ b0 h w) {sz k b o cap : Nat} {y : SV} {cs : List SV} (hc : capOk pc y = true) (hsrc : srcCells pc h sz y = some (k, cs)) (hy : y.den ρ = .slice (some ⟨b, o, none⟩) k cap) : b < w.heap.size := by
  unfold srcCells at hsrc
  split at hsrc
  · split at hsrc
    · rename_i l hl
      obtain ⟨p, hlk, hcs⟩ := ocs_some hl
      simp only [SV.den, Value.slice.injEq, Option.some.injEq, Addr.mk.injEq] at hy
      rw [← hy.1.1]; exact HeapR.lt H hlk
    · cases hsrc
  · split at hsrc
    · rename_i l hl
      obtain ⟨p, hlk, hcs⟩ := ocs_some hl
      simp only [SV.den, Value.slice.injEq, Option.some.injEq, Addr.mk.injEq] at hy
      rw [← hy.1.1]; exact HeapR.lt H hlk
    · cases hsrc
  · simp [SV.den] at hy
  · cases hc
  · cases hsrc
theorem slOk (P : Program) (hρ : ρ.Ok) (hp : Holds ρ pc) (hn : HNames nx h) (hrom : RomsOk T.orac.rom b0 ρ) (H : HeapR ρ b0 h w) {sz : Nat} {y : SV} {s : LSrc} (hc : capOk pc y = true) (hs : srcL T.orac.rom pc h sz y = some s) : SlOk ρ w sz (y.den ρ) (s.l.den ρ) := by
  have hlt : ∀ n o, lk h n = some o → ∀ m ∈ o.names, m < nx := fun n o hl => (hn n o hl).2
  have hS := srcL_ok (P := P) hρ hp hn hrom H hs
  have hln := hS.lenOf w
  have len_of : ∀ base k cap, y.den ρ = .slice base k cap → k = (s.l.den ρ).length := by
    intro base k cap he
    rw [he] at hln
    simpa [Builtin.lenOf] using hln
  unfold srcL at hs
  split at hs
  · rename_i r off len cap
    have hk := len_of _ _ _ (by simp only [SV.den]; rfl)
    unfold srcRom at hs
    split at hs
    · rename_i esz ks hr
      obtain ⟨r0, r1, r2, r3, r4, r5⟩ := hrom.2 r esz ks hr
      split at hs
      · rename_i hz
        have hz' : esz = sz := by simpa using hz
        subst hz'
        split at hs
        · rename_i d1 d2 d3
          cases hs
          have g1 := dec_le hρ hp d1
          have g2 := dec_le hρ hp d2
          have g3 := dec_le hρ hp d3
          rw [lit_den, resI_den hρ hp] at g1
          rw [lit_den] at g2
          rw [addE_den, resI_den hρ hp] at g3
          simp only [IE.den, LE.den, lenV] at g3
          have hw : (winL (.rom r) (.len (.rom r)) (resI pc off) len).den ρ = ((ρ.z.rl r).drop (off.den ρ).toNat).take (len.den ρ).toNat := by
            rw [winL_den (by simp only [IE.den, LE.den, lenV]), resI_den hρ hp]; simp only [LE.den]
          simp only at hk ⊢
          refine ⟨_, _, by simp only [SV.den]; rw [hk], ?_, ?_⟩
          · rw [← hk]
            cases cap with
            | none => simp only [capDen]; omega
            | some c =>
              simp only [capOk] at hc
              split at hc
              · rename_i d4
                have := dec_le hρ hp d4
                simp only [capDen]; omega
              · cases hc
          · intro hpos
            rw [← hk] at hpos
            obtain ⟨q1, q2⟩ := r3 (by omega)
            refine ⟨ρ.z.rb r, ρ.z.ro r + (off.den ρ).toNat * esz, by rw [q1, r1]; simp [addr_add'], Nat.lt_of_lt_of_le q2 H.g0.size, ?_⟩
            intro i c e u he hu
            rw [hw] at he
            have := rom_cell hrom H.g0 hr (win_get he) hu
            rw [Nat.add_mul, ← Nat.add_assoc] at this
            exact this
        · cases hs
      · cases hs
    · cases hs
  · rename_i n cn z off len cap
    have hk := len_of _ _ _ (by simp only [SV.den]; rfl)
    unfold srcRow at hs
    split at hs
    · rename_i c tot ks u dn zs hlk
      obtain ⟨obj, ho, rest, lo, hi, rfl, hfz, hcp, hmx, hpos, hks, ht, htot⟩ := H.at_ n _ hlk
      split at hs
      · rename_i hcn
        have hcn' : dn = cn := by simpa using hcn
        subst hcn'
        split at hs
        · rename_i hz1
          split at hs
          · rename_i hz2
            have hz1' : zs = z := by simpa using hz1
            have hz2' : zs = sz := by simpa using hz2
            subst hz1'; subst hz2'
            split at hs
            · rename_i d1 d2 d3
              cases hs
              have g1 := dec_le hρ hp d1
              have g2 := dec_le hρ hp d2
              have g3 := dec_le hρ hp d3
              rw [lit_den, resI_den hρ hp] at g1
              rw [lit_den] at g2
              rw [addE_den, resI_den hρ hp, htot] at g3
              have hw : (winL c tot (resI pc off) len).den ρ = ((c.den ρ).drop (off.den ρ).toNat).take (len.den ρ).toNat := by
                rw [winL_den htot, resI_den hρ hp]
              have hAge : (c.den ρ).length ≤ ρ.a dn := by
                have hfl : (c.den ρ).flatten.length = (c.den ρ).length * zs := by rw [flat_len ht, hks]
                have : (c.den ρ).length * zs ≤ ρ.a dn * zs := by omega
                exact Nat.le_of_mul_le_mul_right this hpos
              simp only at hk ⊢
              refine ⟨_, _, by simp only [SV.den]; rw [hk], ?_, ?_⟩
              · rw [← hk]
                cases cap with
                | none =>
                  simp only [capDen]
                  omega
                | some c =>
                  simp only [capOk] at hc
                  split at hc
                  · rename_i d4
                    have := dec_le hρ hp d4
                    simp only [capDen]; omega
                  · cases hc
              · intro hpos
                refine ⟨ρ.a n, (off.den ρ).toNat * zs, rfl, HeapR.lt H hlk, ?_⟩
                intro i c e u he hu
                rw [hw] at he
                have := rowl_cell H hlk (win_get he) hu
                rw [Nat.add_mul] at this
                exact this
            · cases hs
          · cases hs
        · cases hs
      · cases hs
    · cases hs
  · simp [capOk] at hc
  · cases hs
    exact ⟨none, 0, by simp [SV.den, LE.den], by simp [LE.den], fun hq => by simp [LE.den] at hq⟩
  · rename_i hnr hns hnl hnn
    split at hs
    · rename_i k cs hsrc
      have hS0 := src_ok (P := P) hρ hp hn hlt H hsrc
      -- the cells, wherever they lie
      have key : ∀ (b o cap : Nat), y.den ρ = .slice (some ⟨b, o, none⟩) k cap → k ≤ cap → (∀ j u, (SV.denL ρ cs)[j]? = some u → w.cell? ⟨b, o + j, none⟩ = some u) → SlOk ρ w sz (y.den ρ) (s.l.den ρ) := by
        intro b o cap hy hkc hcell
        have hk := len_of _ _ _ hy
        refine ⟨some ⟨b, o, none⟩, cap, by rw [hy, hk], by rw [← hk]; exact hkc, fun hpos => ?_⟩
        rw [← hk] at hpos
        split at hs
        · omega
        · split at hs
          · rename_i ks hks
            split at hs
            · rename_i l hl
              cases hs
              obtain ⟨q1, q2, q3⟩ := rowsL_ok hρ hp hrom.typed k cs l hS0.len hl
              have hkl : ks.length = sz := by
                rw [kindsOf_length hks, List.length_take, hS0.len]
                have : 1 * sz ≤ k * sz := Nat.mul_le_mul_right _ hpos
                omega
              have hget : ∀ (i c : Nat) (e : List Value) (u : Value), (l.den ρ)[i]? = some e → e[c]? = some u → w.cell? ⟨b, o + i * sz + c, none⟩ = some u := by
                intro i c e u he hu
                have hc2 : c < ks.length := by
                  rw [← conf_length (q3 e (List.mem_of_getElem? he))]
                  exact (List.getElem?_eq_some_iff.1 hu).1
                have := flat_get q3 he hc2
                rw [q2, hkl, hu] at this
                have := hcell _ _ this
                rwa [← Nat.add_assoc] at this
              refine ⟨b, o, rfl, ?_, hget⟩
              by_cases hsz : sz = 0
              · exact slBlock hρ hp hn H hc hsrc hy
              · obtain ⟨e, he⟩ : ∃ e, (l.den ρ)[0]? = some e := ⟨_, List.getElem?_eq_getElem (by omega)⟩
                have hel := conf_length (q3 e (List.mem_of_getElem? he))
                obtain ⟨u, hu⟩ : ∃ u, e[0]? = some u := ⟨_, List.getElem?_eq_getElem (by omega)⟩
                have := hget 0 0 e u he hu
                exact cell_block this rfl
            · cases hs
          · cases hs
      unfold srcCells at hsrc
      split at hsrc
      · rename_i n off len cap
        split at hsrc
        · rename_i l hl
          obtain ⟨o, hlk, hcs⟩ := ocs_some hl
          split at hsrc
          · cases hsrc
            simp only [capOk] at hc
            refine key (ρ.a n) off cap (by simp only [SV.den]) (Nat.le_of_ble_eq_true hc) (fun j u hj => ?_)
            rw [denL_get, List.getElem?_take] at hj
            split at hj
            · rw [List.getElem?_drop] at hj
              cases hq2 : l[off + j]? with
              | none => simp [hq2] at hj
              | some v => simp [hq2] at hj; rw [cell_at H hlk hcs hq2, hj]
            · simp at hj
          · cases hsrc
        · cases hsrc
      · rename_i n cn z off len
        split at hsrc
        · rename_i l hl
          obtain ⟨o, hlk, hcs⟩ := ocs_some hl
          split at hsrc
          · rename_i hz
            have hz' : z = sz := by simpa using hz
            subst hz'
            split at hsrc
            · rename_i hle
              cases hsrc
              simp only [capOk] at hc
              cases hc
            · cases hsrc
          · cases hsrc
        · cases hsrc
      · exact absurd rfl hnn
      · cases hc
      · cases hsrc
    · cases hs
/- what a told call's letters mean -/
theorem insK_ok (hρ : ρ.Ok) (hp : Holds ρ pc) : ∀ (l : List (IntKind × Nat × IE)), insK pc l = true → ∀ k n e, lkI l k n = some e → kmin k ≤ e.den ρ ∧ e.den ρ ≤ kmax k
  | [], _, k, n, e, h => by cases h
  | (j, m, f) :: l, hi, k, n, e, h => by
    simp only [insK] at hi
    split at hi
    · rename_i h1
      simp only [lkI] at h
      split at h
      · rename_i hk
        have hk' := (keq_iff _ _).1 hk
        subst hk'
        split at h
        · cases h; exact inK_in hρ hp h1
        · exact insK_ok hρ hp l hi _ _ _ h
      · exact insK_ok hρ hp l hi _ _ _ h
    · cases hi
theorem oddsB_ok (hρ : ρ.Ok) (hp : Holds ρ pc) {roms : Roms} (hr : RTyped roms ρ) : ∀ (l : List (Nat × LE)), oddsB roms pc l = true → ∀ n e, lk l n = some e → Typed byteK (e.den ρ) ∧ ((e.den ρ).length : Int) ≤ 9223372036854775807
  | [], _, n, e, h => by rw [lk_nil] at h; cases h
  | (m, f) :: l, hi, n, e, h => by
    simp only [oddsB] at hi
    split at hi
    · split at hi
      · rename_i h2
        split at hi
        · rename_i h3
          rw [lk_cons] at h
          split at h
          · cases h
            have := dec_le hρ hp h3
            rw [lenE_den hρ hp, lit_den] at this
            exact ⟨typedB_ok hρ hp hr _ h2, this⟩
          · exact oddsB_ok hρ hp hr l hi n e h
        · cases hi
      · cases hi
    · cases hi
theorem romsLen_ok (hρ : ρ.Ok) (hp : Holds ρ pc) : ∀ (l : List (Nat × LE)), romsLen pc l = true → ∀ n e, lk l n = some e → ((e.den ρ).length : Int) ≤ 9223372036854775807
  | [], _, n, e, h => by rw [lk_nil] at h; cases h
  | (m, f) :: l, hi, n, e, h => by
    simp only [romsLen] at hi
    split at hi
    · rename_i h3
      rw [lk_cons] at h
      split at h
      · cases h
        have := dec_le hρ hp h3
        rw [lenE_den hρ hp, lit_den] at this
        exact this
      · exact romsLen_ok hρ hp l hi n e h
    · cases hi
/-- A slice's parts. -/
def slBase : Value → Option Addr
  | .slice a _ _ => a
  | _ => none
def slCap : Value → Nat
  | .slice _ _ c => c
  | _ => 0
/-- The callee's letters: what its slices are. -/
noncomputable def Rho.call (ρ : Rho) (M : Mt) (cr : Roms) : Rho :=
  { ρ.sb M.S with z := { (ρ.sb M.S).z with
      ra := fun r => match lk M.m r with
        | some y => slBase (y.den ρ)
        | none => none
      rb := fun r => match lk M.m r with
        | some y => ((slBase (y.den ρ)).getD ⟨0, 0, none⟩).block
        | none => 0
      ro := fun r => match lk M.m r with
        | some y => ((slBase (y.den ρ)).getD ⟨0, 0, none⟩).off
        | none => 0
      rc := fun r => match lk M.m r with
        | some y => slCap (y.den ρ)
        | none => 0
      re := fun r => match lk cr r with
        | some (e, _) => e
        | none => 0 } }
theorem call_base (M : Mt) (cr : Roms) : Base (ρ.sb M.S) (ρ.call M cr) := ⟨fun _ _ _ => rfl, fun _ _ => rfl, fun _ _ => rfl, rfl, rfl⟩
theorem romsIn_ok {roms : Roms} {M : Mt} : ∀ {cr : Roms}, romsIn roms pc h M cr = true → ∀ r esz ks, lk cr r = some (esz, ks) → ∃ y l s, lk M.m r = some y ∧ lk M.S.r r = some l ∧ capOk pc y = true ∧ srcL roms pc h esz y = some s ∧ s.l = l ∧ ksFits ks s.ks = true ∧ ks.length = esz
  | [], _, r, esz, ks, h => by rw [lk_nil] at h; cases h
  | (q, (e, k)) :: t, hi, r, esz, ks, hl => by
    simp only [romsIn] at hi
    split at hi
    · rename_i y l hy hlr
      split at hi
      · rename_i hc
        split at hi
        · rename_i s hs
          split at hi
          · rename_i hb
            split at hi
            · rename_i hf
              split at hi
              · rename_i hk
                split at hi
                · rw [lk_cons] at hl
                  split at hl
                  · rename_i he
                    subst he
                    cases hl
                    exact ⟨y, l, s, hy, hlr, hc, hs, LE.beq_eq _ _ hb, hf, by simpa using hk⟩
                  · exact romsIn_ok hi r esz ks hl
                · cases hi
              · cases hi
            · cases hi
          · cases hi
        · cases hi
      · cases hi
    · cases hi
theorem call_ok' (P : Program) (hρ : ρ.Ok) (hp : Holds ρ pc) (hn : HNames nx h) (hrom : RomsOk T.orac.rom b0 ρ) (H : HeapR ρ b0 h w) {M : Mt} {cr : Roms} (h1 : romsIn T.orac.rom pc h M cr = true) (h2 : insK pc M.S.i = true) (h3 : oddsB T.orac.rom pc M.S.l = true) (h4 : romsLen pc M.S.r = true) :
    (ρ.call M cr).Ok ∧ RomsOk cr w (ρ.call M cr) := by
  refine ⟨⟨?_, ?_, ?_, ?_, ?_, ?_⟩, ?_, ?_⟩
  · intro k n
    show kmin k ≤ (match lkI M.S.i k n with | some e => e.den ρ | none => ρ.i k n)
    split
    · rename_i e he; exact (insK_ok hρ hp _ h2 k n e he).1
    · exact hρ.lo k n
  · intro k n
    show (match lkI M.S.i k n with | some e => e.den ρ | none => ρ.i k n) ≤ kmax k
    split
    · rename_i e he; exact (insK_ok hρ hp _ h2 k n e he).2
    · exact hρ.hi k n
  · intro n
    show (((match lk M.S.l n with | some e => e.den ρ | none => ρ.l n) : LV).length : Int) ≤ _
    split
    · rename_i e he; exact (oddsB_ok hρ hp hrom.typed _ h3 n e he).2
    · exact hρ.ll n
  · intro n hodd
    show Typed byteK (match lk M.S.l n with | some e => e.den ρ | none => ρ.l n)
    split
    · rename_i e he; exact (oddsB_ok hρ hp hrom.typed _ h3 n e he).1
    · exact hρ.lodd n hodd
  · intro r
    show (((match lk M.S.r r with | some l => l.den ρ | none => ρ.z.rl r) : LV).length : Int) ≤ _
    split
    · rename_i e he; exact romsLen_ok hρ hp _ h4 r e he
    · exact hρ.rl r
  · exact hρ.fodd
  · exact globok_grown (F := ρ.z.F) hrom.1 H.g0
  · intro r esz ks hr
    obtain ⟨y, l, s, q1, q2, q3, q4, q5, q6, q7⟩ := romsIn_ok h1 r esz ks hr
    subst q5
    have hS := srcL_ok (P := P) hρ hp hn hrom H q4
    obtain ⟨base, cap, e1, e2, e3⟩ := (slOk P hρ hp hn hrom H q3 q4).den
    have a1 : (ρ.call M cr).z.rl r = s.l.den ρ := by show (match lk M.S.r r with | some l => l.den ρ | none => ρ.z.rl r) = _; rw [q2]
    have a2 : (ρ.call M cr).z.ra r = base := by show (match lk M.m r with | some y => slBase (y.den ρ) | none => none) = _; rw [q1]; simp only [e1, slBase]
    have a3 : (ρ.call M cr).z.rb r = (base.getD ⟨0, 0, none⟩).block := by show (match lk M.m r with | some y => ((slBase (y.den ρ)).getD ⟨0, 0, none⟩).block | none => 0) = _; rw [q1]; simp only [e1, slBase]
    have a4 : (ρ.call M cr).z.ro r = (base.getD ⟨0, 0, none⟩).off := by show (match lk M.m r with | some y => ((slBase (y.den ρ)).getD ⟨0, 0, none⟩).off | none => 0) = _; rw [q1]; simp only [e1, slBase]
    have a5 : (ρ.call M cr).z.rc r = cap := by show (match lk M.m r with | some y => slCap (y.den ρ) | none => 0) = _; rw [q1]; simp only [e1, slCap]
    have a6 : (ρ.call M cr).z.re r = esz := by show (match lk cr r with | some (e, _) => e | none => 0) = _; rw [hr]
    have ht : Typed ks (s.l.den ρ) := by
      unfold ksFits at q6
      split at q6
      · rename_i k hk
        rw [← ksEq_eq _ _ q6] at hk
        exact hS.typed (.inr hk)
      · rename_i hk; exact hS.typed (.inl hk)
    rw [a1, a2, a3, a4, a5, a6]
    refine ⟨q7, rfl, ht, fun hpos => ?_, e2, ?_⟩
    · obtain ⟨b, o, rfl, f2, _⟩ := e3 hpos
      exact ⟨rfl, f2⟩
    · intro i c e v he hv
      have hlt := (List.getElem?_eq_some_iff.1 he).1
      obtain ⟨b, o, rfl, _, f3⟩ := e3 (by omega)
      exact f3 i c e v he hv
theorem fitV_ok (P : Program) (hρ : ρ.Ok) (hp : Holds ρ pc) (hn : HNames nx h) (hrom : RomsOk T.orac.rom b0 ρ) (H : HeapR ρ b0 h w) {M : Mt} {cr : Roms} (h1 : romsIn T.orac.rom pc h M cr = true) {p v : SV} (hf : fitV T.orac.rom pc h cr M p v = true) : p.den (ρ.call M cr) = v.den ρ := by
  unfold fitV at hf
  split at hf
  · rename_i r q
    split at hf
    · rename_i hrq
      have hrq' : r = q := by simpa using hrq
      subst hrq'
      split at hf
      · rename_i p' y hcr hy
        obtain ⟨esz, ks⟩ := p'
        have hxy := SV.beq_eq _ _ hf
        subst hxy
        obtain ⟨y, l, s, q1, q2, q3, q4, q5, q6, q7⟩ := romsIn_ok h1 r esz ks hcr
        rw [hy] at q1; cases q1
        subst q5
        obtain ⟨base, cap, e1, e2, e3⟩ := (slOk P hρ hp hn hrom H q3 q4).den
        have a1 : (ρ.call M cr).z.rl r = s.l.den ρ := by show (match lk M.S.r r with | some l => l.den ρ | none => ρ.z.rl r) = _; rw [q2]
        have a2 : (ρ.call M cr).z.ra r = base := by show (match lk M.m r with | some y => slBase (y.den ρ) | none => none) = _; rw [hy]; simp only [e1, slBase]
        have a5 : (ρ.call M cr).z.rc r = cap := by show (match lk M.m r with | some y => slCap (y.den ρ) | none => 0) = _; rw [hy]; simp only [e1, slCap]
        rw [e1]
        simp only [SV.den, capDen, IE.den, LE.den, lenV, a1, a2, a5]
        have : base.map (fun a => a.add ((Int.ofNat 0).toNat * (ρ.call M cr).z.re r)) = base := by
          cases base with
          | none => rfl
          | some a => simp [Addr.add]
        rw [this]
        simp
      · cases hf
    · cases hf
  · rename_i x n
    split at hf
    · split at hf
      · rename_i l l' hl hl'
        have he := LE.beq_eq _ _ hf
        subst he
        rw [(asL_ok hρ hp hrom.typed hl).1]
        simp only [SV.den, LE.den]
        have : (ρ.call M cr).l n = l.den ρ := by show (match lk M.S.l n with | some e => e.den ρ | none => ρ.l n) = _; rw [hl']
        rw [this]
      · cases hf
    · cases hf
  · rename_i k j n i e
    split at hf
    · rename_i hk
      split at hf
      · rename_i hk2
        split at hf
        · split at hf
          · rename_i e' he'
            have q1 := (keq_iff _ _).1 hk
            have q2 := (keq_iff _ _).1 hk2
            subst q1; subst q2
            have hb := IE.beq_eq _ _ hf
            subst hb
            simp only [SV.den, IE.den]
            have : (ρ.call M cr).i k n = e.den ρ := by show (match lkI M.S.i k n with | some e => e.den ρ | none => ρ.i k n) = _; rw [he']
            rw [this]
          · cases hf
        · cases hf
      · cases hf
    · cases hf
  · rename_i n e
    split at hf
    · rename_i e' he'
      have hb := BE.beq_eq _ _ hf
      subst hb
      simp only [SV.den, BE.den]
      have : (ρ.call M cr).b n = e.den ρ := by show (match lk M.S.b n with | some e => e.den ρ | none => ρ.b n) = _; rw [he']
      rw [this]
    · cases hf
  · rename_i k a j b
    split at hf
    · rename_i hk
      rw [(keq_iff _ _).1 hk, ieqb_t hf]
      simp only [SV.den, IE.den]
    · cases hf
  · rename_i a b
    have : a = b := by simpa using hf
    subst this
    simp only [SV.den, BE.den]
  · rename_i f g
    have : f = g := by simpa using hf
    subst this
    simp [SV.den, SV.denL, fnDen]
  · simp only [SV.den]
  · cases hf
theorem fitL_ok (P : Program) (hρ : ρ.Ok) (hp : Holds ρ pc) (hn : HNames nx h) (hrom : RomsOk T.orac.rom b0 ρ) (H : HeapR ρ b0 h w) {M : Mt} {cr : Roms} (h1 : romsIn T.orac.rom pc h M cr = true) : ∀ (ps vs : List SV), fitL T.orac.rom pc h cr M ps vs = true → SV.denL (ρ.call M cr) ps = SV.denL ρ vs
  | [], [], _ => rfl
  | [], _ :: _, hf => by cases hf
  | _ :: _, [], hf => by cases hf
  | p :: ps, v :: vs, hf => by
    simp only [fitL] at hf
    split at hf
    · rename_i h2
      rw [SV.denL, SV.denL, fitV_ok P hρ hp hn hrom H h1 h2, fitL_ok P hρ hp hn hrom H h1 ps vs hf]
    · cases hf
theorem fit1_ok (P : Program) (hρ : ρ.Ok) (hp : Holds ρ pc) (hn : HNames nx h) (hrom : RomsOk T.orac.rom b0 ρ) (H : HeapR ρ b0 h w) {M : Mt} {cr : Roms} (h1 : romsIn T.orac.rom pc h M cr = true) : ∀ (ps vs : List SV), fit1 T.orac.rom pc h cr M ps vs = true → SV.denL (ρ.call M cr) ps = SV.denL ρ vs := by
  intro ps
  induction ps with
  | nil => intro vs hf; cases vs with
    | nil => rfl
    | cons v vs => simp [fit1] at hf
  | cons p ps ih =>
    intro vs hf
    unfold fit1 at hf
    split at hf
    · rename_i hq; cases hq
    · rename_i p' ps' v' vs' hq
      cases hq
      split at hf
      · rename_i h2
        rw [SV.denL, SV.denL, SV.den, SV.den, fitL_ok P hρ hp hn hrom H h1 _ _ h2, ih _ hf]
      · cases hf
    · rename_i p' ps' v' vs' _ hq
      cases hq
      split at hf
      · rename_i h2
        rw [SV.denL, SV.denL, fitV_ok P hρ hp hn hrom H h1 h2, ih _ hf]
      · cases hf
    · cases hf
/- flat things mean the same where the letters do -/
theorem flat_den {ρ ρ' : Rho} (g : Base ρ ρ') {N : Nat} (ha : ∀ n, n < N → ρ'.a n = ρ.a n) : ∀ {v : SV}, v.flat = true → NamesV N v → v.den ρ' = v.den ρ := by
  intro v hf hn
  unfold SV.flat at hf
  split at hf
  · simp only [SV.den, BE.free_den g _ hf]
  · simp only [SV.den, IE.free_den g _ hf]
  · simp only [SV.den, LE.free_den g _ hf]
  · rename_i n cn sz len
    simp only [SV.den, capDen, IE.free_den g _ hf, ha n (hn n (by simp [SV.names])), ha cn (hn cn (by simp [SV.names])), IE.den]
  · simp only [SV.den]
  · cases hf
theorem flatL_den {ρ ρ' : Rho} (g : Base ρ ρ') {N : Nat} (ha : ∀ n, n < N → ρ'.a n = ρ.a n) : ∀ {l : List SV}, flatL l = true → (∀ m ∈ SV.namesL l, m < N) → SV.denL ρ' l = SV.denL ρ l
  | [], _, _ => rfl
  | v :: l, hf, hn => by
    rw [SV.denL, SV.denL, flat_den g ha (ifb hf).1 (fun m hm => hn m (by simp [SV.namesL, hm])), flatL_den g ha (ifb hf).2 (fun m hm => hn m (by simp [SV.namesL, hm]))]
theorem flat1_den {ρ ρ' : Rho} (g : Base ρ ρ') {N : Nat} (ha : ∀ n, n < N → ρ'.a n = ρ.a n) {v : SV} (hf : v.flat1 = true) (hn : NamesV N v) : v.den ρ' = v.den ρ := by
  unfold SV.flat1 at hf
  split at hf
  · simp only [SV.den, flatL_den g ha hf (fun m hm => hn m (by simpa [SV.names] using hm))]
  · exact flat_den g ha hf hn
theorem flatL1_den {ρ ρ' : Rho} (g : Base ρ ρ') {N : Nat} (ha : ∀ n, n < N → ρ'.a n = ρ.a n) : ∀ {l : List SV}, flatL1 l = true → (∀ m ∈ SV.namesL l, m < N) → SV.denL ρ' l = SV.denL ρ l
  | [], _, _ => rfl
  | v :: l, hf, hn => by
    rw [SV.denL, SV.denL, flat1_den g ha (ifb hf).1 (fun m hm => hn m (by simp [SV.namesL, hm])), flatL1_den g ha (ifb hf).2 (fun m hm => hn m (by simp [SV.namesL, hm]))]
theorem flat2_den {ρ ρ' : Rho} (g : Base ρ ρ') {N : Nat} (ha : ∀ n, n < N → ρ'.a n = ρ.a n) {v : SV} (hf : v.flat2 = true) (hn : NamesV N v) : v.den ρ' = v.den ρ := by
  unfold SV.flat2 at hf
  split at hf
  · simp only [SV.den, flatL1_den g ha hf (fun m hm => hn m (by simpa [SV.names] using hm))]
  · exact flat1_den g ha hf hn
theorem lk_append' {α : Type} (l m : List (Nat × α)) (n : Nat) : lk (l ++ m) n = match lk l n with | some o => some o | none => lk m n := by
  induction l with
  | nil => simp [lk_nil]
  | cons p l ih =>
    obtain ⟨k, o⟩ := p
    rw [List.cons_append, lk_cons, lk_cons, ih]
    by_cases e : k = n <;> simp [e]
theorem flat_names {S : Sub} {N : Nat} (hS : ∀ n, n < N → nmA S.a n = nx + n) {v : SV} (hf : v.flat = true) (hn : NamesV N v) : NamesV (nx + N) (v.sb pc S) := by
  intro m hm
  unfold SV.flat at hf
  split at hf
  · simp [SV.sb, SV.names] at hm
  · simp [SV.sb, SV.names] at hm
  · simp [SV.sb, SV.names] at hm
  · rename_i n cn sz len
    have h1 := hn n (by simp [SV.names])
    have h2 := hn cn (by simp [SV.names])
    simp only [SV.sb, SV.names, List.mem_cons, List.not_mem_nil, or_false, hS n h1, hS cn h2] at hm
    omega
  · simp [SV.sb, SV.names] at hm
  · cases hf
theorem flatL_names {S : Sub} {N : Nat} (hS : ∀ n, n < N → nmA S.a n = nx + n) : ∀ {l : List SV}, flatL l = true → (∀ m ∈ SV.namesL l, m < N) → ∀ m ∈ SV.namesL (SV.sbL pc S l), m < nx + N
  | [], _, _, m, hm => by simp [SV.sbL, SV.namesL] at hm
  | v :: l, hf, hn, m, hm => by
    simp only [SV.sbL, SV.namesL, List.mem_append] at hm
    rcases hm with hm | hm
    · exact flat_names hS (ifb hf).1 (fun k hk => hn k (by simp [SV.namesL, hk])) m hm
    · exact flatL_names hS (ifb hf).2 (fun k hk => hn k (by simp [SV.namesL, hk])) m hm
theorem flat1_names {S : Sub} {N : Nat} (hS : ∀ n, n < N → nmA S.a n = nx + n) {v : SV} (hf : v.flat1 = true) (hn : NamesV N v) : NamesV (nx + N) (v.sb pc S) := by
  unfold SV.flat1 at hf
  split at hf
  · intro m hm
    simp only [SV.sb, SV.names] at hm
    exact flatL_names hS hf (fun k hk => hn k (by simpa [SV.names] using hk)) m hm
  · exact flat_names hS hf hn
theorem flatL1_names {S : Sub} {N : Nat} (hS : ∀ n, n < N → nmA S.a n = nx + n) : ∀ {l : List SV}, flatL1 l = true → (∀ m ∈ SV.namesL l, m < N) → ∀ m ∈ SV.namesL (SV.sbL pc S l), m < nx + N
  | [], _, _, m, hm => by simp [SV.sbL, SV.namesL] at hm
  | v :: l, hf, hn, m, hm => by
    simp only [SV.sbL, SV.namesL, List.mem_append] at hm
    rcases hm with hm | hm
    · exact flat1_names hS (ifb hf).1 (fun k hk => hn k (by simp [SV.namesL, hk])) m hm
    · exact flatL1_names hS (ifb hf).2 (fun k hk => hn k (by simp [SV.namesL, hk])) m hm
theorem flat2_names {S : Sub} {N : Nat} (hS : ∀ n, n < N → nmA S.a n = nx + n) {v : SV} (hf : v.flat2 = true) (hn : NamesV N v) : NamesV (nx + N) (v.sb pc S) := by
  unfold SV.flat2 at hf
  split at hf
  · intro m hm
    simp only [SV.sb, SV.names] at hm
    exact flatL1_names hS hf (fun k hk => hn k (by simpa [SV.names] using hk)) m hm
  · exact flat1_names hS hf hn
theorem flatH_row : ∀ {hh : SHeap}, flatH hh = true → ∀ n o, lk hh n = some o → ∃ c tot ks t cn sz, o = .rowl c tot ks t cn sz ∧ c.free = true ∧ tot.free = true
  | [], _, n, o, hl => by rw [lk_nil] at hl; cases hl
  | (m, p) :: hh, hf, n, o, hl => by
    unfold flatH at hf
    split at hf
    · rename_i hq; cases hq
    · rename_i c tot ks t cn sz h' hq
      cases hq
      rw [lk_cons] at hl
      have hf2 := (ifb hf).2
      split at hl
      · cases hl; exact ⟨_, _, _, _, _, _, rfl, (ifb hf).1, (ifb hf2).1⟩
      · exact flatH_row (ifb hf2).2 n o hl
    · cases hf
theorem shiftA_lk (nx : Nat) : ∀ (k m n : Nat), lk (shiftA nx k m) n = if m ≤ n ∧ n < m + k then some (nx + n) else none
  | 0, m, n => by
    rw [shiftA, lk_nil, if_neg (by omega)]
  | k + 1, m, n => by
    rw [shiftA, lk_cons, shiftA_lk nx k (m + 1) n]
    by_cases h : m = n
    · subst h; simp
    · rw [if_neg h]
      by_cases h2 : m + 1 ≤ n ∧ n < m + 1 + k
      · rw [if_pos h2, if_pos (by omega)]
      · rw [if_neg h2, if_neg (by omega)]
theorem sbH_lk {S : Sub} {N : Nat} (hS : ∀ n, n < N → nmA S.a n = nx + n) : ∀ {hh : SHeap}, (∀ p ∈ hh, p.1 < N) → ∀ m o, lk (sbH pc S hh) m = some o → ∃ n p, lk hh n = some p ∧ m = nx + n ∧ n < N ∧ o = p.sb pc S
  | [], _, m, o, hl => by rw [sbH, lk_nil] at hl; cases hl
  | (k, p) :: hh, hN, m, o, hl => by
    have hk : k < N := hN (k, p) (List.mem_cons_self ..)
    rw [sbH, lk_cons, hS k hk] at hl
    split at hl
    · rename_i he
      cases hl
      exact ⟨k, p, by rw [lk_cons, if_pos rfl], he.symm, hk, rfl⟩
    · rename_i he
      obtain ⟨n, q, h1, h2, h3, h4⟩ := sbH_lk hS (fun x hx => hN x (List.mem_cons_of_mem _ hx)) m o hl
      refine ⟨n, q, ?_, h2, h3, h4⟩
      rw [lk_cons, if_neg (by omega), h1]
/-- A told call does as is told. -/
theorem useC_ok (hT : PostsOk T.orac) (hρ : ρ.Ok) (hp : Holds ρ pc) (hn : HNames nx h) (hO : OracOk P b0 T.orac ρ) (H : HeapR ρ b0 h w) {c : Ctr} (hc : c ∈ T.orac.ctr) {args : List SV} {u : Used} (hu : useC T.orac.rom pc h nx c args = .use u) :
    Holds ρ u.post ∧ Calls P c.f (SV.denL ρ args).toArray w fun e w' => ∃ ρ', e = .returned (u.val.den ρ') ∧ Move ρ ρ' b0 h (u.made ++ h) nx u.next w w' ∧ NamesV u.next u.val := by
  refine ⟨useC_post ⟨hρ, hO.F⟩ hp (hT c hc) hu, ?_⟩
  have hC := hO.ctr c hc
  have hrom := hO.rom
  unfold useC at hu
  generalize match1 T.orac.rom pc h c.roms c.pat args ⟨Sub.nil, []⟩ = M at hu
  simp only [] at hu
  split at hu
  · rename_i h1
    split at hu
    · rename_i h2
      split at hu
      · rename_i h3
        split at hu
        · rename_i h4
          split at hu
          · rename_i h5
            split at hu
            · rename_i h6
              cases hu
              obtain ⟨k1, k2⟩ := call_ok' (T := T) (b0 := b0) (w := w) P hρ hp hn hrom H h2 h3 h4 h5
              have hpre : Holds (ρ.call M c.roms) c.pre := (freeL_holds (call_base M c.roms) _ hC.flat.2.2.2).2 (preOk_ok hρ hp _ h6)
              have hcall := hC.call (ρ.call M c.roms) w ⟨k1, hO.F⟩ k2 hpre
              rw [fit1_ok P hρ hp hn hrom H h2 _ _ h1] at hcall
              refine hcall.mono ?_
              rintro e w' ⟨ρ1, g1, rfl, H1⟩
              -- where things lie now
              obtain ⟨ρ2, hρ2⟩ : ∃ ρ2 : Rho, ρ2 = { ρ with a := fun n => if nx ≤ n ∧ n < nx + c.cnt then ρ1.a (n - nx) else ρ.a n } := ⟨_, rfl⟩
              have g2 : Agr ρ ρ2 nx (nx + c.cnt) := by
                subst hρ2
                exact ⟨rfl, rfl, rfl, rfl, rfl, fun n hn => by
                  have : ¬ (nx ≤ n ∧ n < nx + c.cnt) := by omega
                  simp [this]⟩
              have ha2 : ∀ n, n < c.cnt → ρ2.a (nx + n) = ρ1.a n := by
                intro n hn
                subst hρ2
                have : nx ≤ nx + n ∧ nx + n < nx + c.cnt := by omega
                simp [this]
              obtain ⟨S, hS⟩ : ∃ S : Sub, S = { M.S with a := shiftA nx c.cnt 0 } := ⟨_, rfl⟩
              rw [← hS]
              have hnm : ∀ n, n < c.cnt → nmA S.a n = nx + n := by
                intro n hn
                rw [hS]
                unfold nmA
                simp only
                rw [shiftA_lk, if_pos (by omega)]
              have hρ2ok := g2.ok hρ
              have hp2 : Holds ρ2 pc := (g2.holds).2 hp
              have base : Base ρ1 (ρ2.sb S) := by
                have b1 : Same (ρ.sb M.S) (ρ.sb S) := by rw [hS]; exact ⟨rfl, rfl, rfl, rfl, rfl⟩
                have b2 : Base (ρ.sb S) (ρ2.sb S) := by
                  have sm := g2.same
                  refine ⟨?_, ?_, ?_, ?_, ?_⟩
                  · intro k n _
                    show (match lkI S.i k n with | some e => e.den ρ2 | none => ρ2.i k n) = (match lkI S.i k n with | some e => e.den ρ | none => ρ.i k n)
                    cases lkI S.i k n <;> simp [IE.den_same sm, sm.i]
                  · intro n _
                    show (match lk S.b n with | some e => e.den ρ2 | none => ρ2.b n) = (match lk S.b n with | some e => e.den ρ | none => ρ.b n)
                    cases lk S.b n <;> simp [BE.den_same sm, sm.b]
                  · intro n _
                    show (match lk S.l n with | some e => e.den ρ2 | none => ρ2.l n) = (match lk S.l n with | some e => e.den ρ | none => ρ.l n)
                    cases lk S.l n <;> simp [LE.den_same sm, sm.l]
                  · show ρ2.z.F = ρ.z.F; rw [sm.z]
                  · funext r
                    show (match lk S.r r with | some l => l.den ρ2 | none => ρ2.z.rl r) = (match lk S.r r with | some l => l.den ρ | none => ρ.z.rl r)
                    cases lk S.r r <;> simp [LE.den_same sm, sm.z]
                have b0' := call_base (ρ := ρ) M c.roms
                exact ⟨fun k n hn => by rw [b2.i k n hn, b1.i, ← b0'.i k n hn, ← g1.i], fun n hn => by rw [b2.b n hn, b1.b, ← b0'.b n hn, ← g1.b], fun n hn => by rw [b2.l n hn, b1.l, ← b0'.l n hn, ← g1.l], by rw [b2.F, b1.z, ← b0'.F, ← g1.z], by rw [b2.rl, b1.z, ← b0'.rl, ← g1.z]⟩
              have hab : ∀ n, n < c.cnt → (ρ2.sb S).a n = ρ1.a n := by
                intro n hn
                show ρ2.a (nmA S.a n) = _
                rw [hnm n hn, ha2 n hn]
              have hval : (c.res.sb pc S).den ρ2 = c.res.den ρ1 := by
                rw [SV.sb_den hρ2ok hp2]
                exact flat2_den base hab hC.flat.1 hC.names.2.1
              have hmade := fun m o hl => sbH_lk (pc := pc) (S := S) (nx := nx) (N := c.cnt) hnm hC.names.2.2.2 m o hl
              have hlkap : ∀ n o, lk (sbH pc S c.heap ++ h) n = some o → (∃ n' p, lk c.heap n' = some p ∧ n = nx + n' ∧ n' < c.cnt ∧ o = p.sb pc S) ∨ lk h n = some o := by
                intro n o hl
                rw [lk_append'] at hl
                split at hl
                · rename_i o' ho'
                  cases hl
                  exact .inl (hmade n _ ho')
                · exact .inr hl
              refine ⟨ρ2, by rw [hval], ⟨g2, by show nx ≤ nx + c.cnt; omega, ⟨?_, ?_, ?_, ?_⟩, H1.g0.size, fun k hk _ => H1.g0.block k hk (by simp), ?_, ?_⟩, ?_⟩
              · exact ⟨H1.g0.os.trans H.g0.os, H1.g0.tape.trans H.g0.tape, H1.g0.output.trans H.g0.output, Nat.le_trans H.g0.size H1.g0.size, fun k hk hne => (H1.g0.block k (Nat.lt_of_lt_of_le hk H.g0.size) (by simp)).trans (H.g0.block k hk hne)⟩
              · intro n o hl
                rcases hlkap n o hl with ⟨n', p, q1, rfl, q3, rfl⟩ | q
                · obtain ⟨obj, r1, r2⟩ := H1.at_ n' p q1
                  refine ⟨obj, by rw [ha2 n' q3]; exact r1, ?_⟩
                  obtain ⟨cc, tot, ks, t, cn, sz, rfl, f1, f2⟩ := flatH_row hC.flat.2.1 n' p q1
                  have hcn : cn < c.cnt := (hC.names.1 n' _ q1).2 cn (by simp [SObj.names])
                  simp only [SObj.sb, ObjR] at r2 ⊢
                  rw [LE.sb_den hρ2ok hp2, IE.sb_den hρ2ok hp2, LE.free_den base _ f1, IE.free_den base _ f2, hnm cn hcn, ha2 cn hcn]
                  exact r2
                · obtain ⟨obj, r1, r2⟩ := H.at_ n o q
                  have hlt := HeapR.lt H q
                  refine ⟨obj, ?_, r2.agr g2 (fun m hm => .inl ((hn n o q).2 m hm))⟩
                  rw [g2.a n (.inl (hn n o q).1)]
                  exact (H1.g0.block _ hlt (by simp)).trans r1
              · intro n o hl
                rcases hlkap n o hl with ⟨n', p, q1, rfl, q3, rfl⟩ | q
                · rw [ha2 n' q3]; exact Nat.le_trans H.g0.size (H1.own n' p q1)
                · rw [g2.a n (.inl (hn n o q).1)]; exact H.own n o q
              · intro n m o p hl hm he
                rcases hlkap n o hl with ⟨n', p', q1, rfl, q3, rfl⟩ | q <;> rcases hlkap m p hm with ⟨m', p'', s1, rfl, s3, rfl⟩ | s
                · rw [ha2 n' q3, ha2 m' s3] at he
                  rw [H1.inj n' m' _ _ q1 s1 he]
                · rw [ha2 n' q3, g2.a m (.inl (hn m p s).1)] at he
                  have := H1.own n' p' q1
                  have := HeapR.lt H s
                  omega
                · rw [ha2 m' s3, g2.a n (.inl (hn n o q).1)] at he
                  have := H1.own m' _ s1
                  have := HeapR.lt H q
                  omega
                · rw [g2.a m (.inl (hn m p s).1), g2.a n (.inl (hn n o q).1)] at he
                  exact H.inj n m o p q s he
              · intro n o hl
                rcases hlkap n o hl with ⟨n', p, q1, rfl, q3, rfl⟩ | q
                · refine .inr ⟨by omega, by show nx + n' < nx + c.cnt; omega, .inl ?_⟩
                  rw [ha2 n' q3]; exact H1.own n' p q1
                · exact .inl ⟨o, q⟩
              · intro n o hl
                rcases hlkap n o hl with ⟨n', p, q1, rfl, q3, rfl⟩ | q
                · refine ⟨by show nx + n' < nx + c.cnt; omega, fun m hm => ?_⟩
                  obtain ⟨cc, tot, ks, t, cn, sz, rfl, f1, f2⟩ := flatH_row hC.flat.2.1 n' p q1
                  have hcn : cn < c.cnt := (hC.names.1 n' _ q1).2 cn (by simp [SObj.names])
                  simp only [SObj.sb, SObj.names, List.mem_cons, List.not_mem_nil, or_false] at hm
                  subst hm
                  show nmA S.a cn < nx + c.cnt
                  rw [hnm cn hcn]; omega
                · exact ⟨Nat.lt_of_lt_of_le (hn n o q).1 (by show nx ≤ nx + c.cnt; omega), fun m hm => Nat.lt_of_lt_of_le ((hn n o q).2 m hm) (by show nx ≤ nx + c.cnt; omega)⟩
              · exact flat2_names hnm hC.flat.1 hC.names.2.1
            · cases hu
            · cases hu
          · cases hu
        · cases hu
      · cases hu
    · cases hu
  · cases hu
end
end Go.Proofs.Ytjgkaimgocnkmab.Sx
