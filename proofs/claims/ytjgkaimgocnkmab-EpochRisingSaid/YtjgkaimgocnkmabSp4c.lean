/- A reckoner of Go's small steps over letters: what is made, appended, copied, turned into bytes. No condition. -/
import Derived.Test.YtjgkaimgocnkmabSp4b
set_option linter.unusedVariables false
set_option linter.unusedSimpArgs false
namespace Go.Proofs.Ytjgkaimgocnkmab.Sx
open Go
section
variable {P : Program} {T : Tab} {ρ : Rho} {b0 : World} {pc : List BE} {h : SHeap} {nx : Nat} {w : World} {sl : Slots} {a : Act} {S : Sem Next}
theorem rep_get (z : List Value) : ∀ (len i : Nat), ((List.replicate len z).flatten)[i]? = if i < len * z.length then z[i % z.length]? else none := by
  intro len
  induction len with
  | zero => intro i; simp
  | succ len ih =>
    intro i
    rw [List.replicate_succ, List.flatten_cons, List.getElem?_append]
    have e : (len + 1) * z.length = len * z.length + z.length := by rw [Nat.add_mul, Nat.one_mul]
    by_cases h : i < z.length
    · rw [if_pos h, if_pos (by omega), Nat.mod_eq_of_lt h]
    · rw [if_neg h, ih]
      have hm : i % z.length = (i - z.length) % z.length := Nat.mod_eq_sub_mod (by omega)
      rw [hm]
      by_cases h2 : i - z.length < len * z.length
      · rw [if_pos h2, if_pos (by omega)]
      · rw [if_neg h2, if_neg (by omega)]
theorem reps_get (z : List Value) (len : Nat) : (Array.range (len * z.length)).map (fun i => (z.toArray)[i % z.toArray.size]!) = ((List.replicate len z).flatten).toArray := by
  apply Array.ext_getElem?
  intro i
  rw [show ((List.replicate len z).flatten).toArray[i]? = ((List.replicate len z).flatten)[i]? by simp, rep_get]
  by_cases hi : i < len * z.length
  · have hn : 0 < z.length := by
      rcases Nat.eq_zero_or_pos z.length with h | h
      · rw [h] at hi; simp at hi
      · exact h
    have hm : i % z.length < z.length := Nat.mod_lt _ hn
    simp only [Array.getElem?_map, hi, if_true, List.size_toArray]
    rw [Array.getElem?_eq_getElem (by simpa using hi)]
    simp only [Option.map_some, Array.getElem_range]
    rw [getElem!_pos _ _ (by simpa using hm), List.getElem?_eq_getElem hm]
    simp
  · rw [if_neg hi, Array.getElem?_eq_none (by simpa using Nat.le_of_not_lt hi)]
theorem reps_den (ρ : Rho) (z : List SV) : ∀ n, SV.denL ρ (reps z n) = (List.replicate n (SV.denL ρ z)).flatten := by
  intro n
  induction n with
  | zero => simp [reps, SV.denL]
  | succ n ih => simp [reps, denL_append, ih, List.replicate_succ]
theorem reps_names (z : List SV) : ∀ n, ∀ m ∈ SV.namesL (reps z n), m ∈ SV.namesL z := by
  intro n
  induction n with
  | zero => simp [reps, SV.namesL]
  | succ n ih =>
    intro m hm
    simp only [reps, namesL_eq, List.flatMap_append, List.mem_append] at hm ih ⊢
    rcases hm with hm | hm
    · exact hm
    · exact ih m hm
theorem makeSlice_ok (hT : T.Ok P) (H : HeapR ρ b0 h w) (hn : HNames nx h) (hsl : SlotsR ρ sl a.tmps) (t : TypeId) (x y : Operand) :
    ORok P ρ b0 h nx w (do pure (.value (← Instr.makeSlice t (a.eval x) (a.eval y)))) (opMakeSlice T h nx sl t x y) := by
  unfold opMakeSlice
  rw [ev_den hsl x, ev_den hsl y]
  split
  · rename_i ti hti
    obtain ⟨d, hd, hst, _⟩ := (hT.ty t ti hti).und
    split
    · rename_i e hu
      rw [hu] at hst
      simp only [StOk] at hst
      subst hst
      split
      · rename_i te l c hte hl hc
        obtain ⟨i', z, hi', hsz, hz, hzc, hby⟩ := (hT.ty _ te hte).info
        have hzl := (hT.ty _ te hte).zl
        have hzn := (hT.ty _ te hte).zn
        obtain ⟨kl, hkl⟩ := litN_ok _ _ hl
        obtain ⟨kc, hkc⟩ := litN_ok _ _ hc
        split
        · rename_i h1
          split
          · rename_i h2
            split
            · rename_i h3
              have h1' := Nat.le_of_ble_eq_true h1
              have h2' := Nat.le_of_ble_eq_true h2
              have h3' := Nat.le_of_ble_eq_true h3
              have hb : (i'.bytes : Int) * (c : Int) ≤ 281474976710656 := by
                have : i'.bytes * c ≤ 1000000 * 1000000 := Nat.mul_le_mul (by omega) h2'
                have h4 : ((i'.bytes * c : Nat) : Int) ≤ 281474976710656 := by omega
                rwa [Int.natCast_mul] at h4
              have hr := run_make (P := P) w t e i' z hd hi' hz kl kc l c (by omega) (by omega) hb (by omega)
              simp only [Int.toNat_natCast] at hr
              refine ⟨_, _, _, ?_, .inl rfl, Move.new H hn (.cells (reps te.zero c) e) (.cells (SV.denL ρ (reps te.zero c)).toArray e) rfl ?_, fun m hm => by simp [SV.names] at hm; omega⟩
              · rw [hkl, hkc, Sem.run_bind, hr, Result.andThen_ok]
                have : madeCells z.cells (c * i'.size) = (SV.denL ρ (reps te.zero c)).toArray := by
                  rw [hzc ρ, hsz, ← hzl, reps_den, ← reps_get]
                  simp [madeCells, denL_length]
                rw [this]
                simp [SV.den, Rho.set_a]
              · intro m hm
                have := reps_names te.zero c m (by simpa [SObj.names] using hm)
                rw [hzn] at this; cases this
            · trivial
          · trivial
        · trivial
      · trivial
    · trivial
  · trivial
/- two that are held against each other -/
theorem foldM2_ok (g : SV → SV → BR) (G : Value → Value → Sem Value) (hg : ∀ u v r, g u v = .ok r → (G (u.den ρ) (v.den ρ)).run P w = .ok (r.den ρ) w ∧ r.names = []) : ∀ (l : List SV) (x v : SV), NamesV nx x → foldM2 g x l = .ok v →
    ((l.map (SV.den ρ)).foldlM G (x.den ρ)).run P w = .ok (v.den ρ) w ∧ NamesV nx v
  | [], x, v, hx, h => by simp only [foldM2, BR.ok.injEq] at h; subst h; exact ⟨rfl, hx⟩
  | y :: l, x, v, hx, h => by
    simp only [foldM2] at h
    split at h
    · rename_i r hr
      obtain ⟨h1, h2⟩ := hg _ _ _ hr
      obtain ⟨h3, h4⟩ := foldM2_ok g G hg l r v (fun m hm => by rw [h2] at hm; cases hm) h
      refine ⟨?_, h4⟩
      simp only [List.map_cons, List.foldlM_cons, Sem.run_bind, h1, Result.andThen_ok]
      exact h3
    · rename_i hh; exact absurd h (hh v)
theorem min2_ok (hρ : ρ.Ok) (hp : Holds ρ pc) (u v r : SV) (h : min2S pc u v = .ok r) : (Builtin.min2 (u.den ρ) (v.den ρ)).run P w = .ok (r.den ρ) w ∧ r.names = [] := by
  unfold min2S at h
  split at h
  · rename_i k e j f
    split at h
    · rename_i hk
      have := (keq_iff _ _).1 hk
      subst this
      split at h
      · rename_i hd
        simp only [BR.ok.injEq] at h; subst h
        have := dec_den hρ hp _ _ hd
        rw [mkLe_den, decide_eq_true_iff] at this
        have : ¬ f.den ρ < e.den ρ := by omega
        exact ⟨by simp [Builtin.min2, SV.den, this], rfl⟩
      · rename_i hd
        simp only [BR.ok.injEq] at h; subst h
        have := dec_den hρ hp _ _ hd
        rw [mkLe_den, decide_eq_false_iff_not] at this
        have : f.den ρ < e.den ρ := by omega
        exact ⟨by simp [Builtin.min2, SV.den, this], rfl⟩
      · cases h
    · cases h
  · cases h
theorem max2_ok (hρ : ρ.Ok) (hp : Holds ρ pc) (u v r : SV) (h : max2S pc u v = .ok r) : (Builtin.max2 (u.den ρ) (v.den ρ)).run P w = .ok (r.den ρ) w ∧ r.names = [] := by
  unfold max2S at h
  split at h
  · rename_i k e j f
    split at h
    · rename_i hk
      have := (keq_iff _ _).1 hk
      subst this
      split at h
      · rename_i hd
        simp only [BR.ok.injEq] at h; subst h
        have := dec_den hρ hp _ _ hd
        rw [mkLe_den, decide_eq_true_iff] at this
        refine ⟨?_, rfl⟩
        simp only [Builtin.max2, SV.den]
        split
        · rfl
        · have : f.den ρ = e.den ρ := by omega
          rw [this]; rfl
      · rename_i hd
        simp only [BR.ok.injEq] at h; subst h
        have := dec_den hρ hp _ _ hd
        rw [mkLe_den, decide_eq_false_iff_not] at this
        have : ¬ f.den ρ > e.den ρ := by omega
        exact ⟨by simp [Builtin.max2, SV.den, this], rfl⟩
      · cases h
    · cases h
  · cases h
/- interfaces -/
theorem plain_no {s : ST} {d : TypeDesc} (h : plainST s = true) (hst : StOk s d) : ∀ ms, d ≠ .interface ms := by
  rintro ms rfl
  cases s <;> simp [plainST, StOk] at h hst
theorem makeI_ok (hT : T.Ok P) (H : HeapR ρ b0 h w) (hn : HNames nx h) (hsl : SlotsR ρ sl a.tmps) (hs : SNames nx sl) (t : TypeId) (x : Operand) :
    ORok P ρ b0 h nx w (do pure (.value (← Instr.makeInterface t (a.eval x)))) (opMakeI T h nx sl t x) := by
  unfold opMakeI
  split
  · rename_i ti hti
    obtain ⟨d, hd, hst, _⟩ := (hT.ty t ti hti).und
    split
    · rename_i hp
      have hno := plain_no hp hst
      refine okSame H hn _ ?_ (fun m hm => ev_names hs x m (by simpa [SV.names] using hm))
      rw [ev_den hsl x]
      cases d <;> first
        | (exact absurd rfl (hno _))
        | (simp [Instr.makeInterface, run_underlying hd, SV.den])
    · trivial
  · trivial
theorem zeroS_ok {P : Program} {t : TypeId} {ti : TI} (hty : TyOk P t ti) {z : SV} (hz : zeroS ti = some z) (ρ : Rho) (w : World) : (zeroValue t).run P w = .ok (z.den ρ) w ∧ z.names = [] := by
  obtain ⟨i, zv, hi, hsz, hzv, hzc, hby⟩ := hty.info
  obtain ⟨d, hd, hst, hag⟩ := hty.und
  obtain ⟨z1, z2⟩ := hty.za i zv hi hzv
  have hzn := hty.zn
  unfold zeroS at hz
  split at hz
  · rename_i ha
    cases hz
    obtain ⟨cs, rfl⟩ := z1 ha
    refine ⟨?_, by simpa [SV.names] using hzn⟩
    have := hzc ρ
    simp only [Value.cells] at this
    rw [run_zeroOf hi hzv, this]; rfl
  · rename_i ha
    have ha' : ti.agg = false := by simpa using ha
    split at hz
    · rename_i v hv
      cases hz
      rw [hv] at hzn
      refine ⟨?_, by simpa [SV.namesL] using hzn⟩
      have hc := hzc ρ
      rw [hv] at hc
      have e : zv.cells = #[zv] := by
        cases zv <;> first
          | rfl
          | (exact absurd rfl (z2 ha' _))
      rw [e] at hc
      simp [SV.denL] at hc
      rw [run_zeroOf hi hzv, hc]
    · cases hz
theorem assert_ok (hT : T.Ok P) (H : HeapR ρ b0 h w) (hn : HNames nx h) (hsl : SlotsR ρ sl a.tmps) (hs : SNames nx sl) (x : Operand) (xt t : TypeId) (ok : Bool) :
    ORok P ρ b0 h nx w (do pure (.value (← Instr.typeAssert (a.eval x) xt t ok))) (opAssert T h nx sl x t ok) := by
  have hx := ev_names hs x
  unfold opAssert
  rw [ev_den hsl x]
  split
  · rename_i ti hti
    obtain ⟨d, hd, hst, _⟩ := (hT.ty t ti hti).und
    split
    · rename_i hp
      have hno := plain_no hp hst
      split
      · rename_i u v he
        rw [he] at hx ⊢
        split
        · rename_i hu
          have : u = t := by simpa using hu
          subst this
          refine okSame H hn _ ?_ ?_
          · cases d <;> first
              | (exact absurd rfl (hno _))
              | (cases ok <;> simp [Instr.typeAssert, run_underlying hd, SV.den, SV.denL, BE.den])
          · intro m hm
            refine hx m ?_
            simp only [SV.names]
            cases ok <;> simpa [SV.names, SV.namesL] using hm
        · rename_i hu
          have hu' : ¬ u = t := by simpa using hu
          split
          · rename_i hok
            subst hok
            split
            · rename_i z hz
              obtain ⟨z1, z2⟩ := zeroS_ok (hT.ty t ti hti) hz ρ w
              refine okSame H hn _ ?_ (fun m hm => by simp [SV.names, SV.namesL, z2] at hm)
              cases d <;> first
                | (exact absurd rfl (hno _))
                | (simp [Instr.typeAssert, run_underlying hd, SV.den, SV.denL, BE.den, hu', z1])
            · trivial
          · trivial
      · rename_i he
        rw [he]
        split
        · rename_i hok
          subst hok
          split
          · rename_i z hz
            obtain ⟨z1, z2⟩ := zeroS_ok (hT.ty t ti hti) hz ρ w
            refine okSame H hn _ ?_ (fun m hm => by simp [SV.names, SV.namesL, z2] at hm)
            cases d <;> first
              | (exact absurd rfl (hno _))
              | (simp [Instr.typeAssert, run_underlying hd, SV.den, SV.denL, BE.den, z1])
          · trivial
        · trivial
      · trivial
    · trivial
  · trivial
/- what is read out of a slice, or a text -/
theorem byteVals_den (l : List IE) : SV.denL ρ (byteVals l) = (l.map (IE.den ρ)).map (Value.int .u8) := by
  induction l with
  | nil => simp [byteVals, SV.denL]
  | cons e l ih => simp [byteVals, SV.denL, SV.den, ih]
theorem byteVals_names (l : List IE) : SV.namesL (byteVals l) = [] := by
  induction l with
  | nil => rfl
  | cons e l ih => simp [byteVals, SV.namesL, SV.names, ih]
theorem byteVals_length (l : List IE) : (byteVals l).length = l.length := by
  induction l with
  | nil => rfl
  | cons e l ih => simp [byteVals, ih]
theorem bytes_data (l : List IE) (hb : ∀ e ∈ l, 0 ≤ e.den ρ ∧ e.den ρ ≤ 255) : (bytesOf (l.map (IE.den ρ))).data.map (fun b => Value.int .u8 b.toNat) = (SV.denL ρ (byteVals l)).toArray := by
  rw [byteVals_den]
  apply Array.ext'
  simp only [bytesOf, List.map_toArray, List.map_map]
  apply List.map_congr_left
  intro e he
  obtain ⟨h0, h1⟩ := hb e he
  simp only [Function.comp]
  rw [byte_back h0 h1]
/-- A source: how many there are, and their cells. -/
structure Src (P : Program) (ρ : Rho) (b0 : World) (h : SHeap) (nx size : Nat) (v : SV) (k : Nat) (cs : List SV) : Prop where
  len : cs.length = k * size
  names : ∀ m ∈ SV.namesL cs, m < nx
  lenOf : ∀ w, (Builtin.lenOf (v.den ρ)).run P w = .ok k w
  first : ∀ (w : World) (n : Nat), HeapR ρ b0 h w → n ≤ k → (Builtin.firstCells size n (v.den ρ)).run P w = .ok (SV.denL ρ (cs.take (n * size))).toArray w
theorem src_ok (hρ : ρ.Ok) (hp : Holds ρ pc) (hn : HNames nx h) (hlt : ∀ n o, lk h n = some o → ∀ m ∈ o.names, m < nx) (Hw : HeapR ρ b0 h w) {size : Nat} {v : SV} {k : Nat} {cs : List SV} (hs : srcCells pc h size v = some (k, cs)) : Src P ρ b0 h nx size v k cs := by
  have cells : ∀ (n off : Nat) (o : SObj) (l : List SV), lk h n = some o → o.cs = some l → off + k * size ≤ l.length → cs = (l.drop off).take (k * size) →
      cs.length = k * size ∧ (∀ m ∈ SV.namesL cs, m < nx) ∧ ∀ (w : World) (q c : Nat), HeapR ρ b0 h w → q ≤ k → (Builtin.firstCells size q (.slice (some ⟨ρ.a n, off, none⟩) k c)).run P w = .ok (SV.denL ρ (cs.take (q * size))).toArray w := by
    intro n off o l hlk hcs hle he
    have hlen : cs.length = k * size := by rw [he]; simp; omega
    obtain ⟨obj, ho, hR⟩ := Hw.at_ n _ hlk
    obtain ⟨_, _, _, _, _, _, _, hsub, _⟩ := obj_cells hR hcs
    refine ⟨hlen, ?_, ?_⟩
    · intro m hm
      obtain ⟨v, hv, hm2⟩ := mem_namesL.1 hm
      rw [he] at hv
      exact hlt n o hlk m (hsub m (mem_namesL.2 ⟨v, List.mem_of_mem_drop (List.mem_of_mem_take hv), hm2⟩))
    · intro w q c H hq
      have hqk : q * size ≤ k * size := Nat.mul_le_mul_right _ hq
      have := run_firstCells_some (P := P) w size q ⟨ρ.a n, off, none⟩ k c (SV.denL ρ (cs.take (q * size))) (by rw [denL_length, List.length_take, hlen]; exact Nat.min_eq_left hqk) ?_
      · exact this
      · intro j v hj
        rw [denL_get, List.getElem?_take] at hj
        split at hj
        · rename_i hjq
          rw [he, List.getElem?_take] at hj
          split at hj
          · rw [List.getElem?_drop] at hj
            cases hq2 : l[off + j]? with
            | none => simp [hq2] at hj
            | some u =>
              simp [hq2] at hj
              rw [addr_add, cell_at H hlk hcs hq2, hj]
          · simp at hj
        · simp at hj
  unfold srcCells at hs
  split at hs
  · rename_i n off len cap
    split at hs
    · rename_i l hl
      obtain ⟨o, hlk, hcs⟩ := ocs_some hl
      split at hs
      · rename_i hle
        simp only [Option.some.injEq, Prod.mk.injEq] at hs
        obtain ⟨rfl, hcs2⟩ := hs
        obtain ⟨c1, c2, c3⟩ := cells n off o l hlk hcs (Nat.le_of_ble_eq_true hle) hcs2.symm
        exact ⟨c1, c2, fun w => by simp [Builtin.lenOf, SV.den], fun w q H hq => c3 w q cap H hq⟩
      · cases hs
    · cases hs
  · rename_i n cn sz off len
    split at hs
    · rename_i l hl
      obtain ⟨o, hlk, hcs⟩ := ocs_some hl
      split at hs
      · rename_i hz
        have hz' : sz = size := by simpa using hz
        subst hz'
        split at hs
        · rename_i hle
          simp only [Option.some.injEq, Prod.mk.injEq] at hs
          obtain ⟨rfl, hcs2⟩ := hs
          obtain ⟨c1, c2, c3⟩ := cells n (off * sz) o l hlk hcs (Nat.le_of_ble_eq_true hle) hcs2.symm
          exact ⟨c1, c2, fun w => by simp [Builtin.lenOf, SV.den], fun w q H hq => c3 w q _ H hq⟩
        · cases hs
      · cases hs
    · cases hs
  · simp only [Option.some.injEq, Prod.mk.injEq] at hs
    obtain ⟨rfl, rfl⟩ := hs
    exact ⟨by simp, by simp [SV.namesL], fun w => by simp [Builtin.lenOf, SV.den], fun w q H hq => by simp [Builtin.firstCells, SV.den, SV.denL]⟩
  · rename_i bs
    split at hs
    · rename_i hz
      have hz' : size = 1 := by simpa using hz
      subst hz'
      split at hs
      · rename_i hb
        have hb' := allByte_ok hρ hp _ hb
        simp only [Option.some.injEq, Prod.mk.injEq] at hs
        obtain ⟨rfl, rfl⟩ := hs
        refine ⟨by simp [byteVals_length], by simp [byteVals_names], fun w => ?_, fun w q H hq => ?_⟩
        · have : (bytesOf (bs.map (IE.den ρ))).size = bs.length := by rw [bytesOf_size]; simp
          simp [Builtin.lenOf, SV.den, this]
        · simp only [Builtin.firstCells, SV.den, Nat.mul_one]
          have hd := bytes_data bs hb'
          have e1 : ((bytesOf (bs.map (IE.den ρ))).extract 0 q).data.map (fun b => Value.int .u8 b.toNat) = ((bytesOf (bs.map (IE.den ρ))).data.map (fun b => Value.int .u8 b.toNat)).extract 0 q := by
            rw [ByteArray.data_extract]
            apply Array.ext'
            simp
          rw [e1, hd]
          have e2 : (SV.denL ρ (byteVals bs)).toArray.extract 0 q = (SV.denL ρ ((byteVals bs).take q)).toArray := by
            apply Array.ext'
            simp [denL_take]
          rw [e2]; rfl
      · cases hs
    · cases hs
  · cases hs
end
end Go.Proofs.Ytjgkaimgocnkmab.Sx
