/- A reckoner of Go's small steps over letters: rows of a length that is a letter, as operations. No condition. -/
import Derived.Test.YtjgkaimgocnkmabSp4f
set_option linter.unusedVariables false
set_option linter.unusedSimpArgs false
set_option linter.deprecated false
namespace Go.Proofs.Ytjgkaimgocnkmab.Sx
open Go
section
variable {P : Program} {T : Tab} {ρ : Rho} {b0 : World} {pc : List BE} {h : SHeap} {nx : Nat} {w : World} {sl : Slots} {a : Act} {S : Sem Next}
theorem symAppendL_ok (hT : T.Ok P) (hρ : ρ.Ok) (hp : Holds ρ pc) (hrom : RomOk T.orac b0 ρ) (H : HeapR ρ b0 h w) (hn : HNames nx h) {t u ty : TypeId} {s x : SV} (hsn : NamesV nx s) :
    ORok P ρ b0 h nx w (do pure (.value (← Builtin.append_ #[t, u] ty #[s.den ρ, x.den ρ]))) (symAppendL T pc h nx t u s x) := by
  unfold symAppendL
  split
  · rename_i ti tu hti htu
    obtain ⟨d, hd, hst, _⟩ := (hT.ty t ti hti).und
    obtain ⟨du, hdu, hsu, _⟩ := (hT.ty u tu htu).und
    split
    · rename_i e hu1
      rw [hu1] at hst
      simp only [StOk] at hst
      subst hst
      split
      · rename_i te hte
        split
        · rename_i hrt
          have hsd : srcTy du := by
            unfold rowTy at hrt
            split at hrt
            · rename_i f hq; rw [hq] at hsu; exact .inl ⟨_, hsu⟩
            · rename_i hq; rw [hq] at hsu; exact .inr hsu
            · cases hrt
          split
          · rename_i hby
            split
            · trivial
            · rename_i h0
              split
              · trivial
              · split
                · rename_i src hsrc
                  exact appendL_ok hT hρ hp hrom H hn hd hdu hsd hte (Nat.le_of_ble_eq_true hby) (Nat.pos_of_ne_zero (by simpa using h0)) (srcL_ok hρ hp hn hrom H hsrc) hsn
                · trivial
          · trivial
        · trivial
      · trivial
    · trivial
  · trivial
theorem symCopyL_ok (hT : T.Ok P) (hρ : ρ.Ok) (hp : Holds ρ pc) (hrom : RomOk T.orac b0 ρ) (H : HeapR ρ b0 h w) (hn : HNames nx h) {t u ty : TypeId} {s x : SV} (hsn : NamesV nx s) :
    ORok P ρ b0 h nx w (do pure (.value (← Builtin.copy_ #[t, u] ty #[s.den ρ, x.den ρ]))) (symCopyL T pc h nx t s x) := by
  unfold symCopyL
  split
  · rename_i ti n cn z off len cap hti
    obtain ⟨d, hd, hst, _⟩ := (hT.ty t ti hti).und
    split
    · rename_i e hu
      rw [hu] at hst
      simp only [StOk] at hst
      subst hst
      split
      · rename_i te c tot ks uu dn zs hte hlk
        obtain ⟨i, zz, hi, hsz, _, _, _⟩ := (hT.ty _ te hte).info
        split
        · rename_i q1
          split
          · rename_i q2
            have q1' : zs = z := by simpa using q1
            have q2' : z = te.size := by simpa using q2
            subst q1'; subst q2'
            obtain ⟨obj, ho, rest, lo, hi', rfl, hfz, hcap, hmx, hpos, hks, htc, htot⟩ := H.at_ n _ hlk
            have hfl : (c.den ρ).flatten.length = (c.den ρ).length * te.size := by rw [flat_len htc, hks]
            split
            · rename_i src hsrc
              have hx := srcL_ok (P := P) hρ hp hn hrom H hsrc
              split
              · rename_i q5
                have hxt : Typed ks (src.l.den ρ) := by
                  unfold ksFits at q5
                  split at q5
                  · rename_i k hk
                    rw [← ksEq_eq _ _ q5] at hk
                    exact hx.typed (.inr hk)
                  · rename_i hk; exact hx.typed (.inl hk)
                have hxl : (src.l.den ρ).flatten.length = (src.l.den ρ).length * te.size := by rw [flat_len hxt, hks]
                have hden : (SV.sll n cn te.size off len cap).den ρ = .slice (some ⟨ρ.a n, (off.den ρ).toNat * te.size, none⟩) (len.den ρ).toNat (capDen ρ (ρ.a cn - (off.den ρ).toNat) cap) := by simp only [SV.den]
                have run : ∀ (q : Nat) (w' : World), Nat.min (src.l.den ρ).length (len.den ρ).toNat = q → (storeCells ⟨ρ.a n, (off.den ρ).toNat * te.size, none⟩ ((src.l.den ρ).flatten.take (q * te.size))).run P w = .ok () w' → (Builtin.copy_ #[t, u] ty #[(SV.sll n cn te.size off len cap).den ρ, x.den ρ]).run P w = .ok (goInt q) w' := by
                  intro q w' hq hst
                  have hl := hx.lenOf w
                  have hf := hx.first w q H (by rw [← hq]; exact Nat.min_le_left _ _)
                  rw [hden]
                  simp only [Builtin.copy_]
                  simp [run_underlying hd, sizeOf, typeInfo, hi, hl, hsz, hq, hf, hst]
                refine needO_ok hρ hp (fun d1 => needO_ok hρ hp (fun d2 => needO_ok hρ hp (fun d3 => splitO_ok hρ hp (fun d4 => ?_) (fun d4 => ?_))))
                · have g1 := le_t d1
                  have g2 := le_t d2
                  have g3 := le_t d3
                  have g4 := le_t d4
                  rw [lit_den, resI_den hρ hp] at g1
                  rw [addE_den, resI_den hρ hp, htot] at g2
                  rw [lit_den] at g3
                  rw [hx.len] at g4
                  obtain ⟨m1, m2, m3⟩ := mid_row (ρ := ρ) (m := src.l) (o := resI pc off) (k := addE (resI pc off) src.len) hks htc htot hxt (by rw [resI_den hρ hp]; exact g1) (by rw [addE_den, hx.len]) (by rw [addE_den, hx.len, resI_den hρ hp, htot]; omega)
                  rw [resI_den hρ hp] at m1
                  have hln : (off.den ρ).toNat + (src.l.den ρ).length ≤ (c.den ρ).length := by omega
                  have hmul : (off.den ρ).toNat * te.size + (src.l.den ρ).length * te.size ≤ (c.den ρ).length * te.size := by rw [← Nat.add_mul]; exact Nat.mul_le_mul_right _ hln
                  obtain ⟨w', hst, hmv⟩ := rowl_write (P := P) (off := (off.den ρ).toNat * te.size) (vs := (src.l.den ρ).flatten) H hn hlk (by rw [hfl, hxl]; exact hmul) (typed_one hxt) m1 m2 m3
                  have hmin : Nat.min (src.l.den ρ).length (len.den ρ).toNat = (src.l.den ρ).length := Nat.min_eq_left (by omega)
                  refine ⟨ρ, w', _, ?_, .inl rfl, hmv, fun m hm => by cases hm⟩
                  rw [Sem.run_bind, run _ w' hmin (by rw [List.take_of_length_le (by rw [hxl]; exact Nat.le_refl _)]; exact hst)]
                  simp [SV.den, goInt, hx.len]
                · have g1 := le_t d1
                  have g2 := le_t d2
                  have g3 := le_t d3
                  have g4 := le_f d4
                  rw [lit_den, resI_den hρ hp] at g1
                  rw [addE_den, resI_den hρ hp, htot] at g2
                  rw [lit_den] at g3
                  rw [hx.len] at g4
                  have htk : (LE.take src.l len).den ρ = (src.l.den ρ).take (len.den ρ).toNat := by simp only [LE.den]
                  have hxt' : Typed ks ((LE.take src.l len).den ρ) := by rw [htk]; exact hxt.take _
                  have htl : ((LE.take src.l len).den ρ).length = (len.den ρ).toNat := by rw [htk, List.length_take]; omega
                  obtain ⟨m1, m2, m3⟩ := mid_row (ρ := ρ) (m := .take src.l len) (o := resI pc off) (k := addE (resI pc off) len) hks htc htot hxt' (by rw [resI_den hρ hp]; exact g1) (by rw [addE_den, htl]; omega) (by rw [addE_den, resI_den hρ hp, htot]; omega)
                  rw [resI_den hρ hp] at m1
                  have hxl' : ((LE.take src.l len).den ρ).flatten.length = (len.den ρ).toNat * te.size := by rw [flat_len hxt', hks, htl]
                  have hln : (off.den ρ).toNat + (len.den ρ).toNat ≤ (c.den ρ).length := by omega
                  have hmul : (off.den ρ).toNat * te.size + (len.den ρ).toNat * te.size ≤ (c.den ρ).length * te.size := by rw [← Nat.add_mul]; exact Nat.mul_le_mul_right _ hln
                  obtain ⟨w', hst, hmv⟩ := rowl_write (P := P) (off := (off.den ρ).toNat * te.size) (vs := ((LE.take src.l len).den ρ).flatten) H hn hlk (by rw [hfl, hxl']; exact hmul) (typed_one hxt') m1 m2 m3
                  have hmin : Nat.min (src.l.den ρ).length (len.den ρ).toNat = (len.den ρ).toNat := Nat.min_eq_right (by omega)
                  refine ⟨ρ, w', _, ?_, .inl rfl, hmv, fun m hm => by cases hm⟩
                  rw [htk, flat_take _ _ hxt, hks] at hst
                  rw [Sem.run_bind, run _ w' hmin hst]
                  simp [SV.den, goInt]
                  omega
              · trivial
            · trivial
          · trivial
        · trivial
      · trivial
    · trivial
  · trivial
theorem symClearL_ok (hT : T.Ok P) (hρ : ρ.Ok) (hp : Holds ρ pc) (hrom : RomOk T.orac b0 ρ) (H : HeapR ρ b0 h w) (hn : HNames nx h) {t ty : TypeId} (s : SV) :
    ORok P ρ b0 h nx w (do pure (.value (← Builtin.clear_ #[t] ty #[s.den ρ]))) (symClearL T pc h nx t s) := by
  unfold symClearL
  split
  · rename_i ti n cn z off len cap hti
    obtain ⟨d, hd, hst, _⟩ := (hT.ty t ti hti).und
    split
    · rename_i e hu
      rw [hu] at hst
      simp only [StOk] at hst
      subst hst
      split
      · rename_i te c tot ks uu dn zs hte hlk
        obtain ⟨i, zv, hi, hsz, hz, hzc, _⟩ := (hT.ty _ te hte).info
        split
        · rename_i q1
          split
          · rename_i q2
            have q1' : zs = z := by simpa using q1
            have q2' : z = te.size := by simpa using q2
            subst q1'; subst q2'
            obtain ⟨obj, ho, rest, lo, hi', rfl, hfz, hcap, hmx, hpos, hks, htc, htot⟩ := H.at_ n _ hlk
            have hfl : (c.den ρ).flatten.length = (c.den ρ).length * te.size := by rw [flat_len htc, hks]
            split
            · rename_i al hal
              obtain ⟨a1, a2⟩ := toAL_ok hρ hp hrom.typed _ _ _ hal
              refine needO_ok hρ hp (fun d1 => needO_ok hρ hp (fun d2 => needO_ok hρ hp (fun d3 => ?_)))
              have g1 := le_t d1
              have g2 := le_t d2
              have g3 := le_t d3
              rw [lit_den, resI_den hρ hp] at g1
              rw [addE_den, resI_den hρ hp, htot] at g2
              rw [lit_den] at g3
              have hrd : (LE.rep al len).den ρ = List.replicate (len.den ρ).toNat (SV.denL ρ te.zero) := by simp only [LE.den, a1]
              have hxt : Typed ks ((LE.rep al len).den ρ) := by rw [hrd]; exact .rep _ a2
              have htl : ((LE.rep al len).den ρ).length = (len.den ρ).toNat := by rw [hrd]; simp
              obtain ⟨m1, m2, m3⟩ := mid_row (ρ := ρ) (m := .rep al len) (o := resI pc off) (k := addE (resI pc off) len) hks htc htot hxt (by rw [resI_den hρ hp]; exact g1) (by rw [addE_den, htl]; omega) (by rw [addE_den, resI_den hρ hp, htot]; omega)
              rw [resI_den hρ hp] at m1
              have hxl : ((LE.rep al len).den ρ).flatten.length = (len.den ρ).toNat * te.size := by rw [flat_len hxt, hks, htl]
              have hln : (off.den ρ).toNat + (len.den ρ).toNat ≤ (c.den ρ).length := by omega
              have hmul : (off.den ρ).toNat * te.size + (len.den ρ).toNat * te.size ≤ (c.den ρ).length * te.size := by rw [← Nat.add_mul]; exact Nat.mul_le_mul_right _ hln
              obtain ⟨w', hst, hmv⟩ := rowl_write (P := P) (off := (off.den ρ).toNat * te.size) (vs := ((LE.rep al len).den ρ).flatten) H hn hlk (by rw [hfl, hxl]; exact hmul) (typed_one hxt) m1 m2 m3
              have hzz : (Builtin.zeroCells zv.cells (len.den ρ).toNat).toList = ((LE.rep al len).den ρ).flatten := by
                rw [hzc ρ, hrd]
                have := reps_get (SV.denL ρ te.zero) (len.den ρ).toNat
                simp only [Builtin.zeroCells]
                have h2 : (SV.denL ρ te.zero).toArray.size = (SV.denL ρ te.zero).length := by simp
                rw [h2]
                rw [h2] at this
                rw [this]
              rw [← hzz] at hst
              refine ⟨ρ, w', .value (.tuple #[]), ?_, .inl (by simp [SV.den, SV.denL]), hmv, fun m hm => by simp [SV.names, SV.namesL] at hm⟩
              rw [Sem.run_bind]
              have : (Builtin.clear_ #[t] ty #[(SV.sll n cn te.size off len cap).den ρ]).run P w = .ok (.tuple #[]) w' := by
                simp only [SV.den]
                cases hln0 : (len.den ρ).toNat with
                | zero =>
                  rw [hln0] at hst
                  have e0 : (Builtin.zeroCells zv.cells 0).toList = [] := by simp [Builtin.zeroCells]
                  rw [e0] at hst
                  simp [storeCells] at hst
                  subst hst
                  simp [Builtin.clear_, run_underlying hd]
                | succ m =>
                  rw [hln0] at hst
                  simp [Builtin.clear_, run_underlying hd, zeroValue, typeInfo, hi, hz, hst]
              rw [this]; rfl
            · trivial
          · trivial
        · trivial
      · trivial
    · trivial
  · trivial
theorem makeSliceX_ok (hT : T.Ok P) (hρ : ρ.Ok) (hp : Holds ρ pc) (hrom : RomOk T.orac b0 ρ) (H : HeapR ρ b0 h w) (hn : HNames nx h) (hsl : SlotsR ρ sl a.tmps) (t : TypeId) (x y : Operand) :
    ORok P ρ b0 h nx w (do pure (.value (← Instr.makeSlice t (a.eval x) (a.eval y)))) (opMakeSliceX T pc h nx sl t x y) := by
  have hold := makeSlice_ok (P := P) hT H hn hsl t x y
  unfold opMakeSliceX
  split
  · split
    · rename_i ti l c hti hl hc
      obtain ⟨d, hd, hst, _⟩ := (hT.ty t ti hti).und
      rw [ev_den hsl x, ev_den hsl y, hl, hc]
      split
      · rename_i e hu
        rw [hu] at hst
        simp only [StOk] at hst
        subst hst
        split
        · rename_i te hte
          obtain ⟨i', z, hi', hsz, hz, hzc, hby⟩ := (hT.ty _ te hte).info
          have hzl := (hT.ty _ te hte).zl
          unfold makeL
          split
          · rename_i hb
            have hb' := IE.beq_eq _ _ hb
            subst hb'
            split
            · rename_i h3
              have h3' := Nat.le_of_ble_eq_true h3
              refine needO_ok hρ hp (fun d1 => needO_ok hρ hp (fun d2 => ?_))
              have g1 := le_t d1
              have g2 := le_t d2
              rw [lit_den] at g1 g2
              split
              · rename_i ks hks
                split
                · rename_i al hal
                  split
                  · trivial
                  · rename_i hs0
                    have hpos : 0 < te.size := Nat.pos_of_ne_zero (by simpa using hs0)
                    obtain ⟨a1, a2⟩ := toAL_ok hρ hp hrom.typed _ _ _ hal
                    have hkl : ks.length = te.size := by rw [kindsOf_length hks, hzl]
                    have hb : (i'.bytes : Int) * (l.den ρ) ≤ 281474976710656 := by
                      have h5 : i'.bytes * (l.den ρ).toNat ≤ 1000000 * 1000000 := Nat.mul_le_mul (by omega) (by omega)
                      have h4 : ((i'.bytes * (l.den ρ).toNat : Nat) : Int) ≤ 281474976710656 := by omega
                      rw [Int.natCast_mul] at h4
                      rwa [show (((l.den ρ).toNat : Nat) : Int) = l.den ρ by omega] at h4
                    have hr := run_make (P := P) w t e i' z hd hi' hz .i64 .i64 (l.den ρ) (l.den ρ) g1 (Int.le_refl _) hb (by omega)
                    have hrd : (LE.rep al l).den ρ = List.replicate (l.den ρ).toNat (SV.denL ρ te.zero) := by simp only [LE.den, a1]
                    have hxt : Typed ks ((LE.rep al l).den ρ) := by rw [hrd]; exact .rep _ a2
                    have htl : ((LE.rep al l).den ρ).length = (l.den ρ).toNat := by rw [hrd]; simp
                    have hmc : madeCells z.cells ((l.den ρ).toNat * i'.size) = ((LE.rep al l).den ρ).flatten.toArray := by
                      rw [hzc ρ, hsz, ← hzl, hrd, ← reps_get]
                      simp [madeCells, denL_length]
                    rw [hmc] at hr
                    refine newRowL_ok (c := .rep al l) (tot := l) (len := l) H hn (h0 := h) (fun k p hp => hp) (cap := (l.den ρ).toNat) (rest := #[]) (lo := 0) (hi := 0) (w' := w.alloc (.cells ((LE.rep al l).den ρ).flatten.toArray e)) ⟨w, H, rfl, ?_, rfl, rfl, rfl⟩ ?_ (.inl (Nat.le_refl _)) ?_ (by simp [maxLen]; omega) hpos hkl hxt (by rw [htl]; omega)
                    · show w.heap.push _ = _
                      simp
                    · simp only [SV.den]
                      rw [Sem.run_bind, hr]; rfl
                    · rw [flat_len hxt, htl, hkl]; simp
                · trivial
              · trivial
            · trivial
          · trivial
        · trivial
      · trivial
    · trivial
  · exact hold
theorem flat_bytes : ∀ {l : LV}, Typed byteK l → l.flatten = (l.map fun c => intV (c.headD (.bool false))).map (Value.int .u8)
  | [], _ => rfl
  | e :: l, h => by
    obtain ⟨n, rfl, h0, h1⟩ := conf_byte_inv (h e (List.mem_cons_self ..))
    rw [List.flatten_cons, flat_bytes (h.sub fun x hx => List.mem_cons_of_mem _ hx)]
    rfl
theorem str_of_src {src dst e : TypeId} (hs : P.underlying src = some (.slice e)) (he : P.underlying e = some (.int .u8)) (hd : P.underlying dst = some .string) {x : SV} {s : LSrc} (hi : isSl x = true) (hS : SrcL P ρ b0 h 1 (x.den ρ) s) (hty : Typed byteK (s.l.den ρ)) (H : HeapR ρ b0 h w) :
    (do pure (.value (← convert src dst (x.den ρ))) : Sem Next).run P w = .ok (.value ((SV.lstr s.l).den ρ)) w := by
  have hsh : ∃ base k cap, x.den ρ = .slice base k cap := by
    unfold isSl at hi
    split at hi
    · exact ⟨_, _, _, by simp only [SV.den]; rfl⟩
    · exact ⟨_, _, _, by simp only [SV.den]; rfl⟩
    · cases hi
  obtain ⟨base, k, cap, hx⟩ := hsh
  rw [hx] at hS ⊢
  have hk : k = (s.l.den ρ).length := by
    have := hS.lenOf w
    simpa [Builtin.lenOf] using this
  have hall := hS.all H
  have hfl : (s.l.den ρ).flatten.length = (s.l.den ρ).length := by rw [flat_len hty]; simp [byteK]
  rw [Sem.run_bind, run_convert_bytes_string w src dst e base k cap hs he hd]
  cases base with
  | none =>
    simp only [Builtin.firstCells, Sem.run_pure, Result.ok.injEq, and_true] at hall
    have : (s.l.den ρ).flatten = [] := by
      have := congrArg Array.toList hall
      simpa using this.symm
    have h0 : s.l.den ρ = [] := by
      rw [this] at hfl
      exact List.eq_nil_of_length_eq_zero hfl.symm
    simp [Conv.bytesToString, SV.den, h0, byteL, bytesOf]
    rfl
  | some ad =>
    simp only [Builtin.firstCells, Nat.mul_one] at hall
    rw [← hk, flat_bytes hty] at hall
    rw [run_bytesToString w ad k cap _ hall, foldl_bytes]
    simp only [SV.den, Result.andThen_ok, byteL, bytesOf]
    congr 3
    simp
theorem conv_okX (hT : T.Ok P) (hρ : ρ.Ok) (hp : Holds ρ pc) (hrom : RomOk T.orac b0 ρ) (H : HeapR ρ b0 h w) (hn : HNames nx h) (hsl : SlotsR ρ sl a.tmps) (src dst : TypeId) (x : Operand) :
    ORok P ρ b0 h nx w (do pure (.value (← convert src dst (a.eval x)))) (opConvX T pc h nx sl src dst x) := by
  have hold := conv_ok (P := P) hT hρ hp H hn hsl src dst x
  unfold opConvX
  split
  · rw [ev_den hsl x]
    unfold convL
    split
    · rename_i ts td hts htd
      obtain ⟨ds, hds, hss, _⟩ := (hT.ty src ts hts).und
      obtain ⟨dd, hdd, hsd, _⟩ := (hT.ty dst td htd).und
      split
      · rename_i l hu1 hu2 he
        rw [hu1] at hss
        rw [hu2] at hsd
        simp only [StOk] at hss hsd
        subst hss; subst hsd
        rw [he]
        refine okSame H hn _ ?_ (fun m hm => by cases hm)
        simp [SV.den, convert, run_underlying hds, run_underlying hdd]
      · rename_i e l hu1 hu2 he
        rw [hu1] at hss
        rw [hu2] at hsd
        simp only [StOk] at hss hsd
        subst hss; subst hsd
        rw [he]
        split
        · rename_i te hte
          split
          · rename_i hu3
            obtain ⟨de, hde, hse, _⟩ := (hT.ty e te hte).und
            rw [hu3] at hse
            simp only [StOk] at hse
            subst hse
            unfold bytesL1
            split
            · rename_i htb
              have hty := typedB_ok hρ hp hrom.typed _ htb
              refine needO_ok hρ hp (fun d1 => ?_)
              have g1 := le_t d1
              rw [lenE_den hρ hp, lit_den] at g1
              have hr := run_bytes_of_string (P := P) w src dst e (byteL (l.den ρ)) hds hdd hde
              rw [byteL_size] at hr
              have hge := grownCap_ge w (l.den ρ).length 0 e
              have hmx := grownCap_le_maxLen w (l.den ρ).length 0 e (by simp [maxLen]; omega)
              have hfl : (l.den ρ).flatten.length = (l.den ρ).length := by rw [flat_len hty]; simp [byteK]
              have hsrc := srcL_ok (P := P) (x := .lstr l) (sz := 1) (s := ⟨lenE pc l, l, some byteK⟩) (h := h) (w := w) hρ hp hn hrom H (by simp [srcL, htb])
              have hfc := hsrc.all H
              have hcd : (byteL (l.den ρ)).data.map (fun b => Value.int .u8 b.toNat) = (l.den ρ).flatten.toArray := by
                have h2 := hfc
                simp only [Builtin.firstCells, SV.den, Sem.run_pure, Result.ok.injEq, and_true] at h2
                rw [← h2, ByteArray.data_extract]
                congr 1
                apply Array.ext'
                have : (byteL (l.den ρ)).data.size = (l.den ρ).length := by rw [← byteL_size]; rfl
                simp only [Array.toList_extract, List.extract_eq_drop_take, List.drop_zero, Nat.sub_zero]
                rw [List.take_of_length_le (by rw [Array.length_toList, this]; exact Nat.le_refl _)]
              have hcell : bytesRow (byteL (l.den ρ)) (grownCap w (l.den ρ).length 0 e) = (l.den ρ).flatten.toArray ++ Array.replicate (grownCap w (l.den ρ).length 0 e - (l.den ρ).length) (.int .u8 0) := by
                unfold bytesRow
                rw [hcd, byteL_size]
              have hlen : ((lenE pc l).den ρ).toNat = (l.den ρ).length := by rw [lenE_den hρ hp]; omega
              simp only [SV.den]
              refine newRowL_ok (c := l) (tot := lenE pc l) (len := lenE pc l) (ks := byteK) (sz := 1) H hn (h0 := h) (fun k p hp => hp) (cap := grownCap w (l.den ρ).length 0 e) (rest := Array.replicate (grownCap w (l.den ρ).length 0 e - (l.den ρ).length) (.int .u8 0)) (lo := (bytesRow (byteL (l.den ρ)) (grownCap w (l.den ρ).length 0 e)).size) (hi := (bytesRow (byteL (l.den ρ)) (grownCap w (l.den ρ).length 0 e)).size + 1)
                (w' := w.drew.alloc (.cells (bytesRow (byteL (l.den ρ)) (grownCap w (l.den ρ).length 0 e)) e ((bytesRow (byteL (l.den ρ)) (grownCap w (l.den ρ).length 0 e)).size, (bytesRow (byteL (l.den ρ)) (grownCap w (l.den ρ).length 0 e)).size + 1))) ⟨w.drew, drewN_heap H, rfl, ?_, rfl, rfl, rfl⟩ (by rw [Sem.run_bind, hr, hlen]; rfl) ?_ ?_ hmx (by decide) rfl hty (by rw [lenE_den hρ hp])
              · show w.drew.heap.push _ = _
                rw [hcell]
              · right
                rw [hcell, hfl]
                simp [hfl]
              · rw [hfl]; simp; omega
            · trivial
          · trivial
        · trivial
      · rename_i e hu1 hu2
        rw [hu1] at hss
        rw [hu2] at hsd
        simp only [StOk] at hss hsd
        subst hss; subst hsd
        split
        · rename_i te hte
          split
          · rename_i hu3
            obtain ⟨de, hde, hse, _⟩ := (hT.ty e te hte).und
            rw [hu3] at hse
            simp only [StOk] at hse
            subst hse
            unfold strL1
            split
            · rename_i hisl
              split
              · rename_i len l ks hsrc
                have hS := srcL_ok (P := P) hρ hp hn hrom H hsrc
                split
                · rename_i hk
                  have hk' := isByteK_eq hk
                  subst hk'
                  have hty := (hS.ty _ rfl).1
                  refine okSame H hn _ ?_ (fun m hm => by cases hm)
                  exact str_of_src hds hde hdd hisl hS hty H
                · trivial
              · trivial
            · trivial
          · trivial
        · trivial
      · trivial
    · trivial
  · exact hold
end
end Go.Proofs.Ytjgkaimgocnkmab.Sx
