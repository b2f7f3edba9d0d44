/- A reckoner of Go's small steps over letters: append, copy, bytes, as operations. No condition. -/
import Derived.Test.YtjgkaimgocnkmabSp4d
import Derived.Laws.IdiomStrings
import Derived.Laws.BytesString
set_option linter.unusedVariables false
set_option linter.unusedSimpArgs false
namespace Go.Proofs.Ytjgkaimgocnkmab.Sx
open Go
section
variable {P : Program} {T : Tab} {ρ : Rho} {b0 : World} {pc : List BE} {h : SHeap} {nx : Nat} {w : World} {sl : Slots} {a : Act} {S : Sem Next}
theorem symAppend_ok (hT : T.Ok P) (hρ : ρ.Ok) (hp : Holds ρ pc) (H : HeapR ρ b0 h w) (hn : HNames nx h) {t u ty : TypeId} {s x : SV} (hsn : NamesV nx s) :
    ORok P ρ b0 h nx w (do pure (.value (← Builtin.append_ #[t, u] ty #[s.den ρ, x.den ρ]))) (symAppend T pc h nx t u s x) := by
  have hlt : ∀ n o, lk h n = some o → ∀ m ∈ o.names, m < nx := fun n o hl => (hn n o hl).2
  unfold symAppend
  split
  · rename_i ti tu hti htu
    obtain ⟨d, hd, hst, _⟩ := (hT.ty t ti hti).und
    obtain ⟨du, hdu, hsu, _⟩ := (hT.ty u tu htu).und
    have main : ∀ (e : TypeId) (te : TI), d = .slice e → srcTy du → T.ty.get e = some te → te.bytes ≤ 1000000 → ∀ k new, srcCells pc h te.size x = some (k, new) → k ≤ 1000000 → allOne new = true → 0 < te.size →
        ORok P ρ b0 h nx w (do pure (.value (← Builtin.append_ #[t, u] ty #[s.den ρ, x.den ρ]))) (appendTo h nx e te.size k new s) := by
      intro e te hde hsd hte hby k new hsrc hk hone hpos
      subst hde
      exact appendTo_ok hT H hn hd hdu hsd hte hby hpos (src_ok hρ hp hn hlt H hsrc) hk hone hsn
    split
    · rename_i e f hu1 hu2
      rw [hu1] at hst
      rw [hu2] at hsu
      simp only [StOk] at hst hsu
      split
      · rename_i te hte
        split
        · rename_i hby
          split
          · rename_i k new hsrc
            split
            · rename_i hk
              split
              · rename_i hone
                split
                · trivial
                · rename_i h0
                  split
                  · trivial
                  · exact main e te hst (.inl ⟨f, hsu⟩) hte (Nat.le_of_ble_eq_true hby) k new hsrc (Nat.le_of_ble_eq_true hk) hone (Nat.pos_of_ne_zero (by simpa using h0))
              · trivial
            · trivial
          · trivial
        · trivial
      · trivial
    · rename_i e hu1 hu2
      rw [hu1] at hst
      rw [hu2] at hsu
      simp only [StOk] at hst hsu
      split
      · rename_i te hte
        split
        · rename_i hby
          split
          · rename_i k new hsrc
            split
            · rename_i hk
              split
              · rename_i hone
                split
                · trivial
                · rename_i h0
                  split
                  · trivial
                  · exact main e te hst (.inr hsu) hte (Nat.le_of_ble_eq_true hby) k new hsrc (Nat.le_of_ble_eq_true hk) hone (Nat.pos_of_ne_zero (by simpa using h0))
              · trivial
            · trivial
          · trivial
        · trivial
      · trivial
    · trivial
  · trivial
theorem symCopy_ok (hT : T.Ok P) (hρ : ρ.Ok) (hp : Holds ρ pc) (H : HeapR ρ b0 h w) (hn : HNames nx h) {t u ty : TypeId} {s x : SV} (hsn : NamesV nx s) :
    ORok P ρ b0 h nx w (do pure (.value (← Builtin.copy_ #[t, u] ty #[s.den ρ, x.den ρ]))) (symCopy T pc h nx t s x) := by
  have hlt : ∀ n o, lk h n = some o → ∀ m ∈ o.names, m < nx := fun n o hl => (hn n o hl).2
  unfold symCopy
  split
  · rename_i ti hti
    obtain ⟨d, hd, hst, _⟩ := (hT.ty t ti hti).und
    split
    · rename_i e hu
      rw [hu] at hst
      simp only [StOk] at hst
      subst hst
      split
      · rename_i te hte
        split
        · rename_i k new hsrc
          have hs := src_ok (P := P) hρ hp hn hlt H hsrc
          split
          · rename_i hone
            split
            · rename_i n off len cap
              exact copyTo_ok hT H hn hd hte hs hone rfl
            · rename_i n cn sz off len
              split
              · rename_i hz
                have hz' : sz = te.size := by simpa using hz
                subst hz'
                exact copyTo_ok hT H hn hd hte hs hone rfl
              · trivial
            · refine okSame H hn _ ?_ (fun m hm => by cases hm)
              obtain ⟨i, z, hi, hsz, hz, hzc, hib⟩ := (hT.ty _ te hte).info
              have hl := hs.lenOf w
              have hf := hs.first w 0 H (Nat.zero_le _)
              have : (Builtin.copy_ #[t, u] ty #[.slice none 0 0, x.den ρ]).run P w = .ok (goInt 0) w := by
                simp [Builtin.copy_, run_underlying hd, sizeOf, typeInfo, hi, hl, hsz, hf]
              simp only [SV.den]
              rw [Sem.run_bind, this]; rfl
            · trivial
          · trivial
        · trivial
      · trivial
    · trivial
  · trivial
theorem clearAt_ok (hT : T.Ok P) (H : HeapR ρ b0 h w) (hn : HNames nx h) {t ty e : TypeId} {te : TI} (hd : P.underlying t = some (.slice e)) (hte : T.ty.get e = some te) (n off len cap : Nat) (hl : ¬ len = 0) {s : SV} (hs : s.den ρ = .slice (some ⟨ρ.a n, off, none⟩) len cap) :
    ORok P ρ b0 h nx w (do pure (.value (← Builtin.clear_ #[t] ty #[s.den ρ]))) (clearAt h nx n off (reps te.zero len)) := by
  obtain ⟨i, z, hi, hsz, hz, hzc, hib⟩ := (hT.ty _ te hte).info
  unfold clearAt
  split
  · rename_i o hlk
    split
    · rename_i cs hcs
      split
      · rename_i hle
        split
        · rename_i hone
          obtain ⟨w', hst, hmv⟩ := write_ok (P := P) H hn hlk hcs (Nat.le_of_ble_eq_true hle) hone (fun m hm => by
            have := reps_names _ _ m hm
            rw [(hT.ty _ te hte).zn] at this; cases this)
          refine ⟨ρ, w', _, ?_, .inl rfl, hmv, fun m hm => by cases hm⟩
          have hzz : (Builtin.zeroCells z.cells len).toList = SV.denL ρ (reps te.zero len) := by
            rw [hzc ρ, reps_den]
            have := reps_get (SV.denL ρ te.zero) len
            simp only [Builtin.zeroCells]
            have h2 : (SV.denL ρ te.zero).toArray.size = (SV.denL ρ te.zero).length := by simp
            rw [h2]
            rw [h2] at this
            rw [this]
          rw [Sem.run_bind, hs]
          have : (Builtin.clear_ #[t] ty #[.slice (some ⟨ρ.a n, off, none⟩) len cap]).run P w = .ok (.tuple #[]) w' := by
            obtain ⟨m, rfl⟩ : ∃ m, len = m + 1 := ⟨len - 1, by omega⟩
            simp [Builtin.clear_, run_underlying hd, zeroValue, typeInfo, hi, hz, hzz, hst]
          rw [this]; rfl
        · trivial
      · trivial
    · trivial
  · trivial
theorem symClear_ok (hT : T.Ok P) (H : HeapR ρ b0 h w) (hn : HNames nx h) {t ty : TypeId} (s : SV) :
    ORok P ρ b0 h nx w (do pure (.value (← Builtin.clear_ #[t] ty #[s.den ρ]))) (symClear T h nx t s) := by
  unfold symClear
  split
  · rename_i ti hti
    obtain ⟨d, hd, hst, _⟩ := (hT.ty t ti hti).und
    split
    · rename_i e hu
      rw [hu] at hst
      simp only [StOk] at hst
      subst hst
      split
      · rename_i te hte
        split
        · rename_i n off len cap
          split
          · rename_i q
            have q' : len = 0 := by simpa using q
            subst q'
            refine okSame H hn _ ?_ (fun m hm => by cases hm)
            simp [SV.den, Builtin.clear_, run_underlying hd]
            rfl
          · rename_i q
            exact clearAt_ok hT H hn hd hte n off len cap (by simpa using q) rfl
        · rename_i n cn sz off len
          split
          · rename_i q
            have q' : len = 0 := by simpa using q
            subst q'
            refine okSame H hn _ ?_ (fun m hm => by cases hm)
            simp [SV.den, Builtin.clear_, run_underlying hd]
            rfl
          · rename_i q
            exact clearAt_ok hT H hn hd hte n (off * sz) len _ (by simpa using q) rfl
        · refine okSame H hn _ ?_ (fun m hm => by cases hm)
          simp [SV.den, Builtin.clear_, run_underlying hd]
          rfl
        · trivial
      · trivial
    · trivial
  · trivial
theorem bytesIn_ok (hρ : ρ.Ok) (hp : Holds ρ pc) : ∀ (cs : List SV) (es : List IE), bytesIn pc cs = some es → SV.denL ρ cs = (es.map (IE.den ρ)).map (Value.int .u8)
  | [], es, h => by simp [bytesIn] at h; subst h; rfl
  | v :: l, es, h => by
    unfold bytesIn at h
    split at h
    · rename_i hh; cases hh
    · rename_i e l' hh
      cases hh
      split at h
      · split at h
        · rename_i es' he
          cases h
          simp [SV.denL, SV.den, bytesIn_ok hρ hp _ _ he]
        · cases h
      · cases h
    · cases h
theorem foldl_bytes : ∀ (l : List Int) (r : ByteArray), l.foldl (fun r n => r.push (UInt8.ofNat n.toNat)) r = ⟨r.data ++ (l.map fun n => UInt8.ofNat n.toNat).toArray⟩
  | [], r => by simp
  | b :: l, r => by
    simp only [List.foldl_cons]
    rw [foldl_bytes l]
    simp [ByteArray.push]
theorem strOf_ok (hT : T.Ok P) (hρ : ρ.Ok) (hp : Holds ρ pc) (H : HeapR ρ b0 h w) (hn : HNames nx h) {src dst e : TypeId} (hs : P.underlying src = some (.slice e)) (he : P.underlying e = some (.int .u8)) (hd : P.underlying dst = some .string) (x : SV) :
    ORok P ρ b0 h nx w (do pure (.value (← convert src dst (x.den ρ)))) (strOf pc h nx x) := by
  have hlt : ∀ n o, lk h n = some o → ∀ m ∈ o.names, m < nx := fun n o hl => (hn n o hl).2
  unfold strOf
  split
  · refine okSame H hn _ ?_ (fun m hm => by cases hm)
    simp only [SV.den]
    rw [Sem.run_bind, run_convert_bytes_string w src dst e none 0 0 hs he hd]
    simp [Conv.bytesToString, bytesOf]
    rfl
  · trivial
  · rename_i hx1 hx2
    split
    · rename_i k cs hsrc
      split
      · rename_i es hes
        have hS := src_ok (P := P) hρ hp hn hlt H hsrc
        refine okSame H hn _ ?_ (fun m hm => by cases hm)
        have hf := hS.first w k H (Nat.le_refl _)
        rw [List.take_of_length_le (by rw [hS.len]; exact Nat.le_refl _), bytesIn_ok hρ hp _ _ hes] at hf
        have hl := hS.lenOf w
        have hshape : ∃ a c, x.den ρ = .slice (some a) k c := by
          unfold srcCells at hsrc
          split at hsrc
          · split at hsrc
            · split at hsrc
              · cases hsrc; exact ⟨_, _, rfl⟩
              · cases hsrc
            · cases hsrc
          · split at hsrc
            · split at hsrc
              · split at hsrc
                · cases hsrc; exact ⟨_, _, rfl⟩
                · cases hsrc
              · cases hsrc
            · cases hsrc
          · exact absurd rfl hx1
          · exact absurd rfl (hx2 _)
          · cases hsrc
        obtain ⟨ad, c, hden⟩ := hshape
        rw [hden] at hf ⊢
        simp only [Builtin.firstCells, Nat.mul_one] at hf
        rw [Sem.run_bind, run_convert_bytes_string w src dst e (some ad) k c hs he hd, run_bytesToString w ad k c _ hf, foldl_bytes]
        simp only [SV.den, Result.andThen_ok]
        congr 3
        simp [bytesOf]
      · trivial
    · trivial
theorem bytesS_ok (hT : T.Ok P) (hρ : ρ.Ok) (hp : Holds ρ pc) (H : HeapR ρ b0 h w) (hn : HNames nx h) {src dst e : TypeId} (hs : P.underlying src = some .string) (hd : P.underlying dst = some (.slice e)) (he : P.underlying e = some (.int .u8)) (bs : List IE) :
    ORok P ρ b0 h nx w (do pure (.value (← convert src dst ((SV.str bs).den ρ)))) (bytesS pc h nx e bs) := by
  unfold bytesS
  split
  · rename_i hle
    have hle' := Nat.le_of_ble_eq_true hle
    split
    · rename_i hb
      have hb' := allByte_ok hρ hp _ hb
      have hr := run_bytes_of_string (P := P) w src dst e (bytesOf (bs.map (IE.den ρ))) hs hd he
      have hsz : (bytesOf (bs.map (IE.den ρ))).size = bs.length := by rw [bytesOf_size]; simp
      rw [hsz] at hr
      have hge := grownCap_ge w bs.length 0 e
      have hcell : bytesRow (bytesOf (bs.map (IE.den ρ))) (grownCap w bs.length 0 e) = (SV.denL ρ (byteVals bs)).toArray ++ Array.replicate (grownCap w bs.length 0 e - bs.length) (.int .u8 0) := by
        unfold bytesRow
        rw [bytes_data bs hb', hsz]
      refine newRow_ok H hn (h0 := h) (fun k p hp => hp) (S := do pure (.value (← convert src dst ((SV.str bs).den ρ)))) (cap := grownCap w bs.length 0 e) (rest := Array.replicate (grownCap w bs.length 0 e - bs.length) (.int .u8 0)) (lo := (bytesRow (bytesOf (bs.map (IE.den ρ))) (grownCap w bs.length 0 e)).size) (hi := (bytesRow (bytesOf (bs.map (IE.den ρ))) (grownCap w bs.length 0 e)).size + 1) (w' := w.drew.alloc (.cells (bytesRow (bytesOf (bs.map (IE.den ρ))) (grownCap w bs.length 0 e)) e ((bytesRow (bytesOf (bs.map (IE.den ρ))) (grownCap w bs.length 0 e)).size, (bytesRow (bytesOf (bs.map (IE.den ρ))) (grownCap w bs.length 0 e)).size + 1))) ⟨w.drew, drewN_heap H, rfl, ?_, rfl, rfl, rfl⟩ (by rw [Sem.run_bind]; simp only [SV.den]; rw [hr]; rfl) ?_ ?_ (grownCap_le_maxLen w bs.length 0 e (by simp [maxLen]; omega)) (by decide) (by simp [byteVals_names])
      · show w.drew.heap.push _ = _
        rw [hcell]
      · right
        rw [hcell]
        simp [denL_length, byteVals_length]
      · simp [byteVals_length]; omega
    · trivial
  · trivial
theorem convSame_ok (H : HeapR ρ b0 h w) (hn : HNames nx h) {t e : TypeId} (hs : P.underlying t = some (.slice e)) (he : P.underlying e = some (.int .u8)) (x : SV) :
    ORok P ρ b0 h nx w (do pure (.value (← convert t t (x.den ρ)))) (convSame h nx x) := by
  unfold convSame
  split
  · rename_i n off len cap
    split
    · rename_i cs u hlk
      split
      · rename_i q0
        split
        · rename_i q1
          split
          · rename_i q2
            have q0' : off = 0 := by simpa using q0
            have q1' : cap = cs.length := by simpa using q1
            have q2' := Nat.le_of_ble_eq_true q2
            subst q0'
            obtain ⟨obj, ho, hR⟩ := H.at_ n _ hlk
            have hR' : obj = .cells (SV.denL ρ cs).toArray u (0, 0) := hR
            subst hR'
            have hlt := H.lt hlk
            have hcsn : ∀ m ∈ SV.namesL cs, m < nx := fun m hm => (hn n _ hlk).2 m (by simp [SObj.names, hm])
            have g := ρ.set2_agr nx (ρ.a n) cap
            have hold : SV.denL (ρ.set2 nx (ρ.a n) cap) cs = SV.denL ρ cs := SV.denL_agr g cs (fun m hm => .inl (hcsn m hm))
            have hsz : (SV.denL ρ cs).toArray.size = cs.length := by simp [denL_length]
            have hfz : w.freeze ⟨ρ.a n, cs.length, none⟩ 1 = World.putO w (ρ.a n) (.cells (SV.denL ρ cs).toArray u (cs.length, cs.length + 1)) := by
              unfold World.freeze World.putO
              rw [if_neg (by decide)]
              congr 1
              apply Array.ext
              · simp
              · intro i h1 h2
                simp only [Array.getElem_modify, Array.getElem_setIfInBounds]
                split
                · rename_i hi
                  subst hi
                  have : w.heap[ρ.a n] = .cells (SV.denL ρ cs).toArray u (0, 0) := (Array.getElem?_eq_some_iff.1 ho).2
                  simp [this]
                · rename_i hi
                  exact (Array.getElem_setIfInBounds_ne (by simpa using h1) hi).symm
            have hsh : w.shape? (ρ.a n) = some (u, cs.length) := by
              unfold World.shape?
              rw [ho]
              simp [denL_length]
            have hrun : (convert t t (.slice (some ⟨ρ.a n, 0, none⟩) len cap)).run P w = .ok (.slice (some ⟨ρ.a n, 0, none⟩) len cap) (World.putO w (ρ.a n) (.cells (SV.denL ρ cs).toArray u (cs.length, cs.length + 1))) := by
              simp [convert, run_underlying hs, run_underlying he, markStringish, hsh, hfz]
            refine ⟨ρ.set2 nx (ρ.a n) cap, World.putO w (ρ.a n) (.cells (SV.denL ρ cs).toArray u (cs.length, cs.length + 1)), .value (.slice (some ⟨ρ.a n, 0, none⟩) len cap), ?_, .inl ?_, Move.row (h0 := rmH n h) H hn ?_ ?_ ?_ (.inr ⟨n, _, hlk, rfl, by rw [lk_rmH]; simp⟩) (obj := .cells (SV.denL ρ cs).toArray u (cs.length, cs.length + 1)) ?_ ?_ ?_ ?_ ?_, ?_⟩
            · rw [Sem.run_bind]
              simp only [SV.den]
              rw [hrun]; rfl
            · simp [SV.den, Rho.set2_a, Rho.set2_c]
            · intro m p hp
              rw [lk_rmH] at hp
              split at hp
              · cases hp
              · exact hp
            · refine ⟨H.g0.os, H.g0.tape, H.g0.output, by simp [World.putO, H.g0.size], fun k hk hne => ?_⟩
              have := H.own n _ hlk
              rw [← H.g0.block k hk hne]
              simp only [World.putO]
              rw [Array.getElem?_setIfInBounds_ne (by omega)]
            · simp [World.putO]
            · simp [World.putO, hlt]
            · intro k p hp
              rw [lk_rmH] at hp
              split at hp
              · cases hp
              · rename_i hne
                have : ρ.a n ≠ ρ.a k := fun e => hne (H.inj n k _ p hlk hp e).symm
                simp only [World.putO]
                rw [Array.getElem?_setIfInBounds_ne this]
            · intro k hk hne
              simp only [World.putO]
              rw [Array.getElem?_setIfInBounds_ne (hne n _ hlk)]
            · refine ⟨#[], cs.length, cs.length + 1, by rw [hold]; simp, .inr (by simp), by rw [Rho.set2_c]; simp [q1'], by rw [Rho.set2_c]; simp [maxLen]; omega, by decide⟩
            · intro m hm
              simp only [SObj.names, List.mem_cons] at hm
              rcases hm with rfl | hm
              · omega
              · have := hcsn m hm; omega
            · intro m hm
              simp only [SV.names, List.mem_cons, List.not_mem_nil, or_false] at hm
              omega
          · trivial
        · trivial
      · trivial
    · trivial
  · trivial
theorem conv_ok (hT : T.Ok P) (hρ : ρ.Ok) (hp : Holds ρ pc) (H : HeapR ρ b0 h w) (hn : HNames nx h) (hsl : SlotsR ρ sl a.tmps) (src dst : TypeId) (x : Operand) :
    ORok P ρ b0 h nx w (do pure (.value (← convert src dst (a.eval x)))) (opConv T pc h nx sl src dst x) := by
  unfold opConv
  split
  · rename_i ts td hts htd
    obtain ⟨ds, hds, hss, _⟩ := (hT.ty src ts hts).und
    obtain ⟨dd, hdd, hsd, _⟩ := (hT.ty dst td htd).und
    split
    · rename_i hu1 hu2
      rw [hu1] at hss
      rw [hu2] at hsd
      simp only [StOk] at hss hsd
      subst hss; subst hsd
      split
      · rename_i bs he
        refine okSame H hn _ ?_ (fun m hm => by cases hm)
        rw [ev_den hsl x, he]
        simp [SV.den, convert, run_underlying hds, run_underlying hdd]
      · trivial
    · rename_i e hu1 hu2
      rw [hu1] at hss
      rw [hu2] at hsd
      simp only [StOk] at hss hsd
      subst hss; subst hsd
      split
      · rename_i te bs hte he
        split
        · rename_i hu3
          obtain ⟨de, hde, hse, _⟩ := (hT.ty e te hte).und
          rw [hu3] at hse
          simp only [StOk] at hse
          subst hse
          rw [ev_den hsl x, he]
          exact bytesS_ok hT hρ hp H hn hds hdd hde bs
        · trivial
      · trivial
    · rename_i e hu1 hu2
      rw [hu1] at hss
      rw [hu2] at hsd
      simp only [StOk] at hss hsd
      subst hss; subst hsd
      split
      · rename_i te hte
        split
        · rename_i hu3
          obtain ⟨de, hde, hse, _⟩ := (hT.ty e te hte).und
          rw [hu3] at hse
          simp only [StOk] at hse
          subst hse
          rw [ev_den hsl x]
          exact strOf_ok hT hρ hp H hn hds hde hdd _
        · trivial
      · trivial
    · rename_i e e2 hu1 hu2
      rw [hu1] at hss
      simp only [StOk] at hss
      subst hss
      split
      · rename_i q
        have q' : src = dst := by simpa using q
        subst q'
        split
        · rename_i te hte
          split
          · rename_i hu3
            obtain ⟨de, hde, hse, _⟩ := (hT.ty e te hte).und
            rw [hu3] at hse
            simp only [StOk] at hse
            subst hse
            rw [ev_den hsl x]
            exact convSame_ok H hn hds hde _
          · trivial
        · trivial
      · trivial
    · exact convI_ok hT hρ hp H hn hsl src dst x
  · trivial
end
end Go.Proofs.Ytjgkaimgocnkmab.Sx
