/- A reckoner of Go's small steps over letters: parts of rows of a length that is a letter; how long they are. No condition. -/
import Derived.Test.YtjgkaimgocnkmabSp4g
set_option linter.unusedVariables false
set_option linter.unusedSimpArgs false
set_option linter.deprecated false
namespace Go.Proofs.Ytjgkaimgocnkmab.Sx
open Go
section
variable {P : Program} {T : Tab} {ρ : Rho} {b0 : World} {pc : List BE} {h : SHeap} {nx : Nat} {w : World} {sl : Slots} {a : Act} {S : Sem Next}
theorem needS_ok (hρ : ρ.Ok) (hp : Holds ρ pc) {c : BE} {k : SR} {m : Nat} {o n : IE} {e : Option IE} (h : needS pc c k m = .ok o n e) : c.den ρ = true ∧ k = .ok o n e := by
  unfold needS at h
  split at h
  · rename_i hd; exact ⟨dec_den hρ hp _ _ hd, h⟩
  · cases h
  · cases h
/-- A bound that is given, or not. -/
def Ov (ρ : Rho) : Option IE → Option Value → Prop
  | none, v => v = none
  | some e, v => ∃ k, v = some (.int k (e.den ρ))
theorem bound_i (k : IntKind) (n : Int) (y : Nat) (c : BoundsCode) (h0 : 0 ≤ n) (h : n ≤ y) : (Instr.sliceBound (.int k n) y c).run P w = .ok n.toNat w := by
  simp [Instr.sliceBound, asIntOf, h0, h]
theorem offS_ok (hρ : ρ.Ok) (hp : Holds ρ pc) {off len m l u o n : IE} {c : Option IE} (h : offS pc off len m l u = .ok o n c) (h0 : 0 ≤ l.den ρ) (h1 : 0 ≤ m.den ρ) :
    n.den ρ = u.den ρ - l.den ρ ∧ (o.den ρ = off.den ρ + (if m.den ρ = l.den ρ then 0 else l.den ρ)) ∧ ∃ e, c = some e ∧ e.den ρ = m.den ρ - l.den ρ := by
  unfold offS at h
  split at h
  · cases h
    have z0 : (IE.lit (.ofNat 0)).den ρ = 0 := by simp [IE.den]
    exact ⟨by rw [z0]; omega, by rw [z0]; split <;> omega, _, rfl, by rw [z0]; omega⟩
  · split at h
    · rename_i hd
      have := dec_eq hρ hp hd
      cases h
      exact ⟨subE_den _ _, by rw [if_pos this]; omega, _, rfl, by rw [lit_den]; omega⟩
    · rename_i hd
      have := dec_ne hρ hp hd
      cases h
      exact ⟨subE_den _ _, by rw [if_neg this, addE_den], _, rfl, subE_den _ _⟩
    · cases h
theorem sliceE_ok (hρ : ρ.Ok) (hp : Holds ρ pc) {off len room : IE} {cap alt : Option IE} {lo hi mx : Option IE} {o n : IE} {c : Option IE} (h : sliceE pc off len room cap alt lo hi mx = .ok o n c) {C : Nat} (hcap : ∀ e, cap = some e → 0 ≤ e.den ρ → C = (e.den ρ).toNat) (hroom : 0 ≤ off.den ρ → room.den ρ ≤ (C : Int))
    (hsome : ∀ e, cap = some e → room = e) (halt : ∀ e, alt = some e → cap = none → 0 ≤ room.den ρ → e.den ρ = (C : Int)) {lv hv mv : Option Value} (hl : Ov ρ lo lv) (hh : Ov ρ hi hv) (hm : Ov ρ mx mv) :
    0 ≤ off.den ρ ∧ ∃ l u m : Nat, (Instr.sliceBounds true (len.den ρ).toNat C lv hv mv).run P w = .ok (l, u, m) w ∧ l ≤ u ∧ u ≤ m ∧ m ≤ C ∧ n.den ρ = (u : Int) - l ∧ o.den ρ = off.den ρ + (if m = l then 0 else (l : Int)) ∧ (∀ e, c = some e → e.den ρ = (m : Int) - l) ∧ (c = none → cap = none ∧ m = C ∧ o.den ρ = off.den ρ + (l : Int)) := by
  unfold sliceE at h
  obtain ⟨d0, h⟩ := needS_ok hρ hp h
  have g0 := le_t d0
  rw [lit_den] at g0
  have hroom := hroom g0
  refine ⟨g0, ?_⟩
  cases mx with
  | some m =>
    simp only [] at h
    obtain ⟨d1, h⟩ := needS_ok hρ hp h
    obtain ⟨d2, h⟩ := needS_ok hρ hp h
    obtain ⟨d3, h⟩ := needS_ok hρ hp h
    obtain ⟨d4, h⟩ := needS_ok hρ hp h
    obtain ⟨d5, h⟩ := needS_ok hρ hp h
    obtain ⟨d6, h⟩ := needS_ok hρ hp h
    have g1 := le_t d1
    have g2 := le_t d2
    have g3 := le_t d3
    have g4 := le_t d4
    have g5 := le_t d5
    have g6 := le_t d6
    rw [lit_den] at g1 g3 g5
    cases hi with
    | none => cases h
    | some u =>
      simp only [orE] at g3 g4 g6 h
      obtain ⟨km, hm⟩ := hm
      obtain ⟨ku, hh⟩ := hh
      subst hm; subst hh
      cases lo with
      | none =>
        simp only [Ov] at hl
        subst hl
        simp only [orE] at h
        obtain ⟨q1, q2, e, q3, q4⟩ := offS_ok hρ hp h (by rw [lit_den]; omega) g1
        rw [lit_den] at q1 q2 q4
        refine ⟨0, (u.den ρ).toNat, (m.den ρ).toNat, ?_, by omega, by omega, by omega, by omega, ?_, fun e' he' => by rw [q3] at he'; cases he'; omega, fun hc => by rw [q3] at hc; cases hc⟩
        · simp [Instr.sliceBounds, bound_i km _ C _ g1 (by omega), bound_i ku _ (m.den ρ).toNat _ g3 (by omega)]
        · rw [q2]; split <;> split <;> omega
      | some l =>
        obtain ⟨kl, hl⟩ := hl
        subst hl
        simp only [orE] at h g5 g6
        obtain ⟨q1, q2, e, q3, q4⟩ := offS_ok hρ hp h g5 g1
        refine ⟨(l.den ρ).toNat, (u.den ρ).toNat, (m.den ρ).toNat, ?_, by omega, by omega, by omega, by omega, ?_, fun e' he' => by rw [q3] at he'; cases he'; omega, fun hc => by rw [q3] at hc; cases hc⟩
        · simp [Instr.sliceBounds, bound_i km _ C _ g1 (by omega), bound_i ku _ (m.den ρ).toNat _ g3 (by omega), bound_i kl _ (u.den ρ).toNat _ g5 (by omega)]
        · rw [q2]; split <;> split <;> omega
  | none =>
    simp only [Ov] at hm
    subst hm
    simp only [] at h
    obtain ⟨d3, h⟩ := needS_ok hρ hp h
    obtain ⟨d4, h⟩ := needS_ok hρ hp h
    obtain ⟨d5, h⟩ := needS_ok hρ hp h
    obtain ⟨d6, h⟩ := needS_ok hρ hp h
    have g3 := le_t d3
    have g4 := le_t d4
    have g5 := le_t d5
    have g6 := le_t d6
    rw [lit_den] at g3 g5
    have run : ∀ (U L : Nat), (U : Int) = (orE len hi).den ρ → (L : Int) = (orE (.lit 0) lo).den ρ → (Instr.sliceBounds true (len.den ρ).toNat C lv hv none).run P w = .ok (L, U, C) w := by
      intro U L hU hL
      cases hi with
      | none =>
        simp only [Ov] at hh
        subst hh
        simp only [orE] at hU g3 g4 g6
        have hU' : (len.den ρ).toNat = U := by omega
        cases lo with
        | none =>
          simp only [Ov] at hl
          subst hl
          simp only [orE, lit_den] at hL
          have : L = 0 := by omega
          subst this
          simp [Instr.sliceBounds, hU']
        | some l =>
          obtain ⟨kl, hl⟩ := hl
          subst hl
          simp only [orE] at hL g5 g6
          have : (l.den ρ).toNat = L := by omega
          simp [Instr.sliceBounds, hU', bound_i kl _ U _ g5 (by omega), this]
      | some u =>
        obtain ⟨ku, hh⟩ := hh
        subst hh
        simp only [orE] at hU g3 g4 g6
        have hU' : (u.den ρ).toNat = U := by omega
        cases lo with
        | none =>
          simp only [Ov] at hl
          subst hl
          simp only [orE, lit_den] at hL
          have : L = 0 := by omega
          subst this
          simp [Instr.sliceBounds, hU', bound_i ku _ C _ g3 (by omega)]
        | some l =>
          obtain ⟨kl, hl⟩ := hl
          subst hl
          simp only [orE] at hL g5 g6
          have : (l.den ρ).toNat = L := by omega
          simp [Instr.sliceBounds, hU', bound_i ku _ C _ g3 (by omega), bound_i kl _ U _ g5 (by omega), this]
    obtain ⟨U, hU⟩ : ∃ U : Nat, (U : Int) = (orE len hi).den ρ := ⟨((orE len hi).den ρ).toNat, by omega⟩
    obtain ⟨L, hL⟩ : ∃ L : Nat, (L : Int) = (orE (.lit 0) lo).den ρ := ⟨((orE (.lit 0) lo).den ρ).toNat, by omega⟩
    refine ⟨L, U, C, run U L hU hL, by omega, by omega, Nat.le_refl _, ?_⟩
    cases lo with
    | none =>
      simp only [] at h
      cases h
      simp only [orE, lit_den] at hL
      have : L = 0 := by omega
      subst this
      refine ⟨by omega, by simp, fun e he => ?_, fun hc => ⟨hc, rfl, by simp⟩⟩
      have := hsome e he
      subst this
      have := hcap _ he (by omega)
      omega
    | some l =>
      simp only [orE] at hL g5 g6
      simp only [] at h
      cases cap with
      | some e =>
        simp only [] at h
        have hr := hsome e rfl
        subst hr
        have hC := hcap _ rfl (by omega)
        obtain ⟨q1, q2, e', q3, q4⟩ := offS_ok hρ hp h g5 (by omega)
        refine ⟨by omega, ?_, fun e2 he2 => by rw [q3] at he2; cases he2; omega, fun hc => by rw [q3] at hc; cases hc⟩
        rw [q2]; split <;> split <;> omega
      | none =>
        simp only [] at h
        split at h
        · cases h
          have z0 : (IE.lit (.ofNat 0)).den ρ = 0 := by simp [IE.den]
          rw [z0] at hL
          have : L = 0 := by omega
          subst this
          exact ⟨by omega, by simp, (fun e he => by cases he), fun hc => ⟨rfl, rfl, by simp⟩⟩
        · have arm : ∀ c', alt = some c' → SR.ok (.ite (.eq c' l) off (addE off l)) (subE (orE len hi) l) (some (subE c' l)) = .ok o n c →
              n.den ρ = (U : Int) - L ∧ o.den ρ = off.den ρ + (if C = L then 0 else (L : Int)) ∧ (∀ e, c = some e → e.den ρ = (C : Int) - L) ∧ (c = none → (none : Option IE) = none ∧ C = C ∧ o.den ρ = off.den ρ + (L : Int)) := by
            intro c' hc' he
            cases he
            have ha := halt c' hc' rfl (by omega)
            refine ⟨by rw [subE_den]; omega, ?_, fun e he => by cases he; rw [subE_den]; omega, fun hc => by cases hc⟩
            simp only [IE.den, BE.den, addE_den]
            split <;> split <;> simp_all <;> omega
          split at h
          · rename_i hd
            have := dec_lt hρ hp hd
            cases h
            refine ⟨by rw [subE_den]; omega, by rw [addE_den, if_neg (by omega)]; omega, (fun e he => by cases he), fun hc => ⟨rfl, rfl, by rw [addE_den]; omega⟩⟩
          · split at h
            · exact arm _ rfl h
            · cases h
          · split at h
            · exact arm _ rfl h
            · cases h
theorem intE_ok (hsl : SlotsR ρ sl a.tmps) {x : Option Operand} {e : Option IE} (h : intE sl x = some e) : Ov ρ e (x.map a.eval) := by
  cases x with
  | none => simp only [intE, Option.some.injEq] at h; subst h; rfl
  | some y =>
    simp only [intE] at h
    split at h
    · rename_i k f hf
      cases h
      exact ⟨k, by simp [ev_den hsl, hf, SV.den]⟩
    · cases h
theorem addr_add2 (a : Addr) (m n : Nat) : (a.add m).add n = a.add (m + n) := by
  obtain ⟨b, o, s⟩ := a
  unfold Addr.add
  by_cases hm : m = 0 <;> by_cases hn : n = 0 <;> simp [hm, hn, Nat.add_assoc]
theorem winStr_ok (hρ : ρ.Ok) (hp : Holds ρ pc) (hr : RTyped T.orac.rom ρ) (H : HeapR ρ b0 h w) (hn : HNames nx h) {t : TypeId} (ht : P.underlying t = some .string) {l : LE} {lo hi : Option IE} {lv hv : Option Value} (hl : Ov ρ lo lv) (hh : Ov ρ hi hv) {s : ByteArray} (hs : s = byteL (l.den ρ)) :
    ORok P ρ b0 h nx w (do pure (.value (← Instr.sliceAt t (.string s) lv hv none))) (winStr T.orac.rom pc h nx l lo hi) := by
  subst hs
  unfold winStr
  split
  · rename_i htb
    refine needO_ok hρ hp (fun d3 => needO_ok hρ hp (fun d4 => needO_ok hρ hp (fun d5 => needO_ok hρ hp (fun d6 => ?_))))
    have g3 := le_t d3
    have g4 := le_t d4
    have g5 := le_t d5
    have g6 := le_t d6
    rw [lit_den] at g3 g5
    have hle := lenE_den hρ hp l
    rw [hle] at g4
    refine okSame H hn _ ?_ (fun m hm => by cases hm)
    obtain ⟨U, hU⟩ : ∃ U : Nat, (U : Int) = (orE (lenE pc l) hi).den ρ := ⟨((orE (lenE pc l) hi).den ρ).toNat, by omega⟩
    obtain ⟨L, hL⟩ : ∃ L : Nat, (L : Int) = (orE (.lit 0) lo).den ρ := ⟨((orE (.lit 0) lo).den ρ).toNat, by omega⟩
    have run : (Instr.sliceBounds false (l.den ρ).length (l.den ρ).length lv hv none).run P w = .ok (L, U, (l.den ρ).length) w := by
      cases hi with
      | none =>
        simp only [Ov] at hh
        subst hh
        simp only [orE] at hU g3 g4 g6
        rw [hle] at hU
        have hU' : (l.den ρ).length = U := by omega
        cases lo with
        | none =>
          simp only [Ov] at hl
          subst hl
          simp only [orE, lit_den] at hL
          have : L = 0 := by omega
          subst this
          simp [Instr.sliceBounds, hU']
        | some l' =>
          obtain ⟨kl, hl⟩ := hl
          subst hl
          simp only [orE] at hL g5 g6
          have : (l'.den ρ).toNat = L := by omega
          simp [Instr.sliceBounds, hU', bound_i kl _ U _ g5 (by omega), this]
      | some u =>
        obtain ⟨ku, hh⟩ := hh
        subst hh
        simp only [orE] at hU g3 g4 g6
        have hU' : (u.den ρ).toNat = U := by omega
        cases lo with
        | none =>
          simp only [Ov] at hl
          subst hl
          simp only [orE, lit_den] at hL
          have : L = 0 := by omega
          subst this
          simp [Instr.sliceBounds, hU', bound_i ku _ (l.den ρ).length _ g3 g4]
        | some l' =>
          obtain ⟨kl, hl⟩ := hl
          subst hl
          simp only [orE] at hL g5 g6
          have : (l'.den ρ).toNat = L := by omega
          simp [Instr.sliceBounds, hU', bound_i ku _ (l.den ρ).length _ g3 g4, bound_i kl _ U _ g5 (by omega), this]
    have hw : (winL l (lenE pc l) (orE (.lit 0) lo) (subE (orE (lenE pc l) hi) (orE (.lit 0) lo))).den ρ = ((l.den ρ).drop L).take (U - L) := by
      rw [winL_den hle, subE_den, ← hU, ← hL]
      congr 1
      omega
    have hex : (byteL (l.den ρ)).extract L U = byteL (((l.den ρ).drop L).take (U - L)) := by
      unfold byteL bytesOf
      apply ByteArray.ext
      rw [ByteArray.data_extract]
      apply Array.ext'
      simp [List.map_drop, List.map_take, List.drop_take]
    simp [Instr.sliceAt, Instr.slice, run_underlying ht, SV.den, byteL_size, run, hex, hw]
  · trivial
theorem sliceX_ok (hT : T.Ok P) (hρ : ρ.Ok) (hp : Holds ρ pc) (hrom : RomOk T.orac b0 ρ) (H : HeapR ρ b0 h w) (hn : HNames nx h) (hsl : SlotsR ρ sl a.tmps) (hs : SNames nx sl) (t : TypeId) (x : Operand) (lo hi mx : Option Operand) :
    ORok P ρ b0 h nx w (do pure (.value (← Instr.sliceAt t (a.eval x) (lo.map a.eval) (hi.map a.eval) (mx.map a.eval)))) (opSliceX T pc h nx sl t x lo hi mx) := by
  have hold := slice_ok (P := P) hT H hn hsl hs t x lo hi mx
  have hx := ev_names hs x
  unfold opSliceX
  split
  · split
    · rename_i ti l u m hti hl hu hm
      have ol := intE_ok hsl hl
      have ou := intE_ok hsl hu
      have om := intE_ok hsl hm
      obtain ⟨d, hd, hst, _⟩ := (hT.ty t ti hti).und
      unfold opSliceL
      rw [ev_den hsl x]
      split
      · rename_i e r off len cap hu1 he
        rw [hu1] at hst
        simp only [StOk] at hst
        subst hst
        rw [he] at hx ⊢
        split
        · rename_i te esz ks hte hr
          obtain ⟨i', z, hi', hsz, _, _, _⟩ := (hT.ty _ te hte).info
          obtain ⟨r0, r1, r2, r3, r4, r5⟩ := hrom.2 r esz ks hr
          split
          · rename_i hz
            have hz' : te.size = esz := by simpa using hz
            split
            · rename_i o n c hS
              have hoff := resI_den hρ hp off
              have hlr : (IE.len (.rom r)).den ρ = ((ρ.z.rl r).length : Int) := by simp only [IE.den, LE.den, lenV]
              obtain ⟨g0, l', u', m', q1, q2, q3, q3b, q4, q5, q6, q7⟩ := sliceE_ok (P := P) (w := w) hρ hp hS (C := capDen ρ (ρ.z.rc r - (off.den ρ).toNat) cap) (fun e he h0 => by subst he; rfl) (fun h00 => by
                rw [hoff] at h00
                cases cap with
                | none =>
                  simp only [roomOf, capDen]
                  rw [subE_den, hoff, hlr]
                  omega
                | some e => simp only [roomOf, capDen]; omega) (fun e he => by subst he; rfl) (fun e he hc hr0 => by
                cases he
                subst hc
                simp only [roomOf] at hr0
                rw [subE_den, hoff, hlr] at hr0
                simp only [capDen]
                rw [subE_den, hoff]
                have hrc : (IE.rcap r).den ρ = (ρ.z.rc r : Int) := by simp only [IE.den]
                have h0 : 0 ≤ off.den ρ := by
                  unfold sliceE at hS
                  have := le_t (needS_ok hρ hp hS).1
                  rw [lit_den, hoff] at this; exact this
                rw [hrc]; omega) ol ou om
              refine okSame H hn _ ?_ (fun m hm => by cases hm)
              rw [hoff] at g0 q5 q7
              have hn0 : (n.den ρ).toNat = u' - l' := by omega
              simp only [Instr.sliceAt, Instr.slice, SV.den, Sem.run_bind, run_underlying hd, Result.andThen_ok, q1, run_sizeOf' hi', Sem.run_pure, hsz, hn0]
              have hcp : capDen ρ (ρ.z.rc r - (o.den ρ).toNat) c = m' - l' := by
                cases c with
                | none =>
                  obtain ⟨e1, e2, e3⟩ := q7 rfl
                  subst e1
                  simp only [capDen] at e2 ⊢
                  omega
                | some e => have := q6 e rfl; simp only [capDen]; omega
              have hpt : (if m' = l' then (ρ.z.ra r).map (fun a => a.add ((off.den ρ).toNat * ρ.z.re r)) else ((ρ.z.ra r).map (fun a => a.add ((off.den ρ).toNat * ρ.z.re r))).map (fun a => a.add (l' * te.size))) = (ρ.z.ra r).map (fun a => a.add ((o.den ρ).toNat * ρ.z.re r)) := by
                by_cases hml : m' = l'
                · rw [if_pos hml]
                  rw [if_pos hml] at q5
                  rw [show o.den ρ = off.den ρ by omega]
                · rw [if_neg hml]
                  rw [if_neg hml] at q5
                  cases hra : ρ.z.ra r with
                  | none => rfl
                  | some ad =>
                    simp only [Option.map_some]
                    rw [addr_add2, r1, hz', ← Nat.add_mul]
                    rw [show (o.den ρ).toNat = (off.den ρ).toNat + l' by omega]
              rw [hcp, hpt]
            · trivial
            · trivial
          · trivial
        · trivial
      · rename_i e n cn z off len cap hu1 he
        rw [hu1] at hst
        simp only [StOk] at hst
        subst hst
        rw [he] at hx ⊢
        split
        · rename_i te c0 tot ks uu dn zs hte hlk
          obtain ⟨i', zv, hi', hsz, _, _, _⟩ := (hT.ty _ te hte).info
          split
          · rename_i hz1
            split
            · rename_i hz2
              split
              · rename_i hz3
                have hz1' : te.size = z := by simpa using hz1
                have hz2' : zs = z := by simpa using hz2
                have hz3' : dn = cn := by simpa using hz3
                subst hz2'; subst hz3'
                obtain ⟨obj, ho, rest, lo', hi2, rfl, hfz, hcap, hmx, hpos, hks, htc, htot⟩ := H.at_ n _ hlk
                have hAge : (c0.den ρ).length ≤ ρ.a dn := by
                  have hfl : (c0.den ρ).flatten.length = (c0.den ρ).length * zs := by rw [flat_len htc, hks]
                  have : (c0.den ρ).length * zs ≤ ρ.a dn * zs := by omega
                  exact Nat.le_of_mul_le_mul_right this hpos
                split
                · rename_i o nn c hS
                  have hoff := resI_den hρ hp off
                  obtain ⟨g0, l', u', m', q1, q2, q3, q3b, q4, q5, q6, q7⟩ := sliceE_ok (P := P) (w := w) hρ hp hS (C := capDen ρ (ρ.a dn - (off.den ρ).toNat) cap) (fun e he h0 => by subst he; rfl) (fun h00 => by
                    rw [hoff] at h00
                    cases cap with
                    | none =>
                      simp only [roomOf, capDen]
                      rw [subE_den, hoff, htot]
                      omega
                    | some e => simp only [roomOf, capDen]; omega) (fun e he => by subst he; rfl) (fun e he hc hr0 => by cases he) ol ou om
                  refine okSame H hn _ ?_ (fun m hm => hx m (by simpa [SV.names] using hm))
                  rw [hoff] at g0 q5 q7
                  have hn0 : (nn.den ρ).toNat = u' - l' := by omega
                  simp only [Instr.sliceAt, Instr.slice, SV.den, Sem.run_bind, run_underlying hd, Result.andThen_ok, q1, run_sizeOf' hi', Sem.run_pure, hsz, hn0]
                  have hcp : capDen ρ (ρ.a dn - (o.den ρ).toNat) c = m' - l' := by
                    cases c with
                    | none =>
                      obtain ⟨e1, e2, e3⟩ := q7 rfl
                      subst e1
                      simp only [capDen] at e2 ⊢
                      omega
                    | some e => have := q6 e rfl; simp only [capDen]; omega
                  have hpt : (if m' = l' then some (⟨ρ.a n, (off.den ρ).toNat * zs, none⟩ : Addr) else (some (⟨ρ.a n, (off.den ρ).toNat * zs, none⟩ : Addr)).map (fun a => a.add (l' * te.size))) = some ⟨ρ.a n, (o.den ρ).toNat * zs, none⟩ := by
                    by_cases hml : m' = l'
                    · rw [if_pos hml]
                      rw [if_pos hml] at q5
                      rw [show o.den ρ = off.den ρ by omega]
                    · rw [if_neg hml]
                      rw [if_neg hml] at q5
                      simp only [Option.map_some]
                      rw [addr_add, hz1', ← Nat.add_mul, show (o.den ρ).toNat = (off.den ρ).toNat + l' by omega]
                  rw [hcp, hpt]
                · trivial
                · trivial
              · trivial
            · trivial
          · trivial
        · trivial
      · rename_i l1 hu1 he
        rw [hu1] at hst
        simp only [StOk] at hst
        subst hst
        rw [he]
        split
        · simp only [Ov] at om
          rw [om]
          exact winStr_ok hρ hp hrom.typed H hn hd ol ou rfl
        · trivial
      · rename_i bs hu1 he
        rw [hu1] at hst
        simp only [StOk] at hst
        subst hst
        rw [he]
        split
        · split
          · simp only [Ov] at om
            rw [om]
            exact winStr_ok hρ hp hrom.typed H hn hd ol ou (strL_byteL _).symm
          · trivial
        · trivial
      · trivial
    · trivial
  · exact hold
end
end Go.Proofs.Ytjgkaimgocnkmab.Sx
