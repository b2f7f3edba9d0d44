/- A reckoner of Go's small steps over letters: the other operations. No condition. -/
import Derived.Test.YtjgkaimgocnkmabSp3
set_option linter.unusedVariables false
set_option linter.unusedSimpArgs false
namespace Go.Proofs.Ytjgkaimgocnkmab.Sx
open Go
section
variable {P : Program} {T : Tab} {ρ : Rho} {b0 : World} {pc : List BE} {h : SHeap} {nx : Nat} {w : World} {sl : Slots} {a : Act} {S : Sem Next}

theorem atom_any (x : BE) : True := trivial
/-- What an operation on two values does. -/
def BRok (P : Program) (ρ : Rho) (nx : Nat) (w : World) (S : Sem Value) : BR → Prop
  | .ok v => S.run P w = .ok (v.den ρ) w ∧ v.names = []
  | .split _ => True
  | .fail _ => True
theorem beq_dec (x y : Int) : (x == y) = decide (x = y) := by
  rw [Bool.eq_iff_iff]; simp
theorem intCmp_ok (op : BinOp) (k : IntKind) (xt : TypeId) (x y : Operand) (e f : IE) (c : BE) (hc : intCmp op e f = some c) :
    ((do eqGuard op xt x y (.int k (e.den ρ)) (.int k (f.den ρ)); binOp op xt (.int k (e.den ρ)) (.int k (f.den ρ))) : Sem Value).run P w = .ok (.bool (c.den ρ)) w := by
  cases op <;> simp [intCmp] at hc <;> subst hc <;>
    simp [eqGuard, binOp_eql, binOp_neq, binOp_lss, binOp_leq, binOp_gtr, binOp_geq, mkEq_den, mkNot_den, mkLe_den] <;>
    first
      | (rw [Bool.eq_iff_iff]; simp; done)
      | (rw [Bool.eq_iff_iff]; simp; omega)
      | skip
theorem intCmp_names (op : BinOp) (e f : IE) (c : BE) : (SV.bool c).names = [] := rfl
theorem symInt_ok (hρ : ρ.Ok) (hp : Holds ρ pc) (op : BinOp) (k : IntKind) (xt : TypeId) (x y : Operand) (e f : IE) (hs : isShift op = false) :
    BRok P ρ nx w ((do eqGuard op xt x y (.int k (e.den ρ)) (.int k (f.den ρ)); binOp op xt (.int k (e.den ρ)) (.int k (f.den ρ))) : Sem Value) (symInt pc op k e f) := by
  cases op <;> simp only [symInt] <;> try (simp [isShift] at hs; done)
  case add => exact ⟨by simp [eqGuard, binOp_add, Op.intArith, SV.den, mkAdd_den hρ hp], rfl⟩
  case sub => exact ⟨by simp [eqGuard, binOp_sub, Op.intArith, SV.den, mkSub_den hρ hp], rfl⟩
  case mul => exact ⟨by simp [eqGuard, binOp_mul, Op.intArith, SV.den, mkMul_den hρ hp], rfl⟩
  case and => exact ⟨by simp [eqGuard, binOp_and, Op.intBits, SV.den, IE.den, binI], rfl⟩
  case or => exact ⟨by simp [eqGuard, binOp_or, Op.intBits, SV.den, IE.den, binI], rfl⟩
  case xor => exact ⟨by simp [eqGuard, binOp_xor, Op.intBits, SV.den, IE.den, binI], rfl⟩
  case andNot => exact ⟨by simp [eqGuard, binOp_andNot, Op.intBits, SV.den, IE.den, binI], rfl⟩
  case quo =>
    split
    · rename_i hd
      have := dec_den hρ hp _ _ hd
      rw [mkEq_den, decide_eq_false_iff_not] at this
      simp only [den_lit] at this
      exact ⟨by simp [eqGuard, binOp_quo, Op.intDiv, SV.den, IE.den, binI, this], rfl⟩
    · trivial
    · trivial
  case rem =>
    split
    · rename_i hd
      have := dec_den hρ hp _ _ hd
      rw [mkEq_den, decide_eq_false_iff_not] at this
      simp only [den_lit] at this
      exact ⟨by simp [eqGuard, binOp_rem, Op.intDiv, SV.den, IE.den, binI, this], rfl⟩
    · trivial
    · trivial
  all_goals
    simp only [intCmp]
    exact ⟨intCmp_ok _ k xt x y e f _ rfl, rfl⟩
theorem symBin_ok (hT : T.Ok P) (hρ : ρ.Ok) (hp : Holds ρ pc) (op : BinOp) (xt : TypeId) (x y : Operand) (u v : SV) :
    BRok P ρ nx w ((do eqGuard op xt x y (u.den ρ) (v.den ρ); binOp op xt (u.den ρ) (v.den ρ)) : Sem Value) (symBin T pc op xt u v) := by
  unfold symBin
  split
  · rename_i k e j f
    split
    · rename_i hs
      split
      · rename_i hd
        have := dec_den hρ hp _ _ hd
        rw [mkLe_den, decide_eq_true_iff] at this
        simp only [den_lit] at this
        have h0 : ¬ f.den ρ < 0 := by omega
        cases op <;> simp [isShift] at hs
        · exact ⟨by simp [eqGuard, SV.den, binOp_shl, Op.shift, h0, IE.den, binI], rfl⟩
        · exact ⟨by simp [eqGuard, SV.den, binOp_shr, Op.shift, h0, IE.den, binI], rfl⟩
      · trivial
      · trivial
    · rename_i hs
      split
      · rename_i hk
        have := (keq_iff _ _).1 hk
        subst this
        exact symInt_ok hρ hp op k xt x y e f (by simpa using hs)
      · trivial
  · rename_i b c
    split
    · rename_i ti hti
      obtain ⟨d, hd, hst, _⟩ := (hT.ty xt ti hti).und
      split
      · rename_i hu
        rw [hu] at hst
        simp only [StOk] at hst
        subst hst
        exact ⟨by simp [SV.den, eqGuard, binOp, run_equal_bool w xt _ _ hd, mkIff_den], rfl⟩
      · rename_i hu
        rw [hu] at hst
        simp only [StOk] at hst
        subst hst
        exact ⟨by simp [SV.den, eqGuard, binOp, run_equal_bool w xt _ _ hd, mkIff_den, mkNot_den], rfl⟩
      · trivial
    · trivial
  · rename_i xs ys
    split
    · rename_i ks hks
      split
      · rename_i c hc
        obtain ⟨h1, h2⟩ := hT.eqs xt ks hks ρ xs ys c w x y hc
        split
        · exact ⟨by simpa [SV.den] using h1, rfl⟩
        · exact ⟨by simpa [SV.den, mkNot_den] using h2, rfl⟩
        · trivial
      · trivial
    · trivial
  · trivial
theorem bin_ok (hT : T.Ok P) (hρ : ρ.Ok) (hp : Holds ρ pc) (H : HeapR ρ b0 h w) (hn : HNames nx h) (hsl : SlotsR ρ sl a.tmps) (hs : SNames nx sl) (op : BinOp) (xt : TypeId) (x y : Operand) :
    ORok P ρ b0 h nx w (do pure (.value (← (do eqGuard op xt x y (a.eval x) (a.eval y); binOp op xt (a.eval x) (a.eval y))))) (opBin T pc h nx sl op xt x y) := by
  have hb := symBin_ok (P := P) (nx := nx) (w := w) hT hρ hp op xt x y (ev sl x) (ev sl y)
  unfold opBin
  rw [ev_den hsl x, ev_den hsl y]
  split
  · rename_i v hv
    rw [hv] at hb
    rw [fSV_eq]
    obtain ⟨h1, h2⟩ := hb
    refine okSame H hn v ?_ (fun m hm => by rw [h2] at hm; cases hm)
    rw [Sem.run_bind, h1]; rfl
  · trivial
  · trivial
theorem un_ok (hρ : ρ.Ok) (hp : Holds ρ pc) (H : HeapR ρ b0 h w) (hn : HNames nx h) (hsl : SlotsR ρ sl a.tmps) (op : UnOp) (x : Operand) :
    ORok P ρ b0 h nx w (do pure (.value (← Op.unary op (a.eval x)))) (opUn pc h nx sl op x) := by
  unfold opUn
  rw [ev_den hsl x]
  split
  · rename_i v hv
    rw [fSV_eq]
    unfold symUn at hv
    split at hv
    · rename_i b hb
      cases hv
      rw [hb]
      exact okSame H hn _ (by simp [SV.den, Op.unary, mkNot_den]) (fun m hm => by cases hm)
    · rename_i k e he
      cases hv
      rw [he]
      exact okSame H hn _ (by simp [SV.den, Op.unary, Op.intArith, mkSub_den hρ hp, den_lit]) (fun m hm => by cases hm)
    · cases hv
  · trivial
theorem conv_ok (hT : T.Ok P) (hρ : ρ.Ok) (hp : Holds ρ pc) (H : HeapR ρ b0 h w) (hn : HNames nx h) (hsl : SlotsR ρ sl a.tmps) (src dst : TypeId) (x : Operand) :
    ORok P ρ b0 h nx w (do pure (.value (← convert src dst (a.eval x)))) (opConv T pc h nx sl src dst x) := by
  unfold opConv
  rw [ev_den hsl x]
  split
  · rename_i v hv
    rw [fSV_eq]
    unfold symConv at hv
    split at hv
    · rename_i ts td k e h1 h2 h3
      split at hv
      · rename_i k' hk
        cases hv
        obtain ⟨d1, e1, _, _⟩ := (hT.ty src ts h1).und
        obtain ⟨d2, e2, s2, _⟩ := (hT.ty dst td h2).und
        rw [hk] at s2
        simp only [StOk] at s2
        subst s2
        rw [h3]
        exact okSame H hn _ (by simp [SV.den, convert, run_underlying e1, run_underlying e2, Conv.intToInt, mkConv_den hρ hp]) (fun m hm => by cases hm)
      · cases hv
    · cases hv
  · trivial
theorem field_at {F : Array Field} {fs : List (Nat × TypeId)} (hF : F.toList.map (fun f => (f.offset, f.type)) = fs) {i : Nat} {p : Nat × TypeId} (hp : nth fs i = some p) :
    ∃ f, F[i]? = some f ∧ f.offset = p.1 ∧ f.type = p.2 := by
  rw [nth_eq, ← hF] at hp
  simp at hp
  obtain ⟨f, h1, h2⟩ := hp
  exact ⟨f, h1, by rw [← h2], by rw [← h2]⟩
theorem fa_ok (hT : T.Ok P) (H : HeapR ρ b0 h w) (hn : HNames nx h) (hsl : SlotsR ρ sl a.tmps) (hs : SNames nx sl) (s : TypeId) (x : Operand) (i : Nat) :
    ORok P ρ b0 h nx w (do pure (.value (← Instr.fieldAt s (a.eval x) i))) (opFA T h nx sl s x i) := by
  have hx := ev_names hs x
  unfold opFA symFieldAddr
  rw [ev_den hsl x]
  split
  · rename_i ti n off hti he
    rw [he] at hx ⊢
    obtain ⟨d, hd, hst, _⟩ := (hT.ty s ti hti).und
    split
    · rename_i fs hfs
      rw [hfs] at hst
      obtain ⟨F, rfl, hF⟩ := hst
      split
      · rename_i p hp
        obtain ⟨f, hf, ho, ht⟩ := field_at hF hp
        split
        · rename_i tf htf
          obtain ⟨i', z, hi, hsz, _, _⟩ := (hT.ty _ tf htf).info
          split
          · trivial
          · rename_i h0
            refine okSame H hn _ ?_ hx
            have h0' : ¬ i'.size = 0 := by rw [hsz]; simpa using h0
            simp [Instr.fieldAt, run_underlying hd, hf, SV.den, Instr.sureAddr, fieldPlace, ht, run_sizeOf' hi, h0', ho]
            unfold Addr.add; split <;> simp_all
        · trivial
      · trivial
    · trivial
  · trivial
theorem part_run (hT : T.Ok P) (t : TypeId) (cs : List SV) (off : Nat) (v : SV) (h' : SHeap) (nx' : Nat) (hv : symPart T h nx t cs off = .val v h' nx') :
    (part t (SV.denL ρ cs).toArray off).run P w = .ok (v.den ρ) w ∧ h' = h ∧ nx' = nx ∧ ∀ m ∈ v.names, m ∈ SV.namesL cs := by
  unfold symPart at hv
  split at hv
  · rename_i ti hti
    obtain ⟨d, hd, _, hag⟩ := (hT.ty t ti hti).und
    obtain ⟨i, z, hi, hsz, _, _⟩ := (hT.ty t ti hti).info
    split at hv
    · rename_i ha
      cases hv
      have hr : d.isRow = true := by rw [← hag]; exact ha
      refine ⟨?_, rfl, rfl, ?_⟩
      · simp [part, run_isAgg hd, hr, run_sizeOf' hi, hsz, SV.den, denL_take, denL_drop]
      · intro m hm
        simp only [SV.names] at hm
        obtain ⟨v, hv, h2⟩ := mem_namesL.1 hm
        exact mem_namesL.2 ⟨v, List.mem_of_mem_drop (List.mem_of_mem_take hv), h2⟩
    · rename_i ha
      have hr : d.isRow = false := by rw [← hag]; simpa using ha
      split at hv
      · rename_i v' hv'
        cases hv
        rw [nth_eq] at hv'
        exact ⟨by simp [part, run_isAgg hd, hr, denL_get, hv'], rfl, rfl, fun m hm => mem_namesL.2 ⟨v, List.mem_of_getElem? hv', hm⟩⟩
      · cases hv
  · cases hv
theorem part_only (t : TypeId) (cs : List SV) (off : Nat) : ∀ r, symPart T h nx t cs off = r → (∃ v h' nx', r = .val v h' nx') ∨ ∃ n, r = .fail n := by
  intro r hr
  unfold symPart at hr
  (repeat' split at hr) <;> subst hr <;> first | exact .inl ⟨_, _, _, rfl⟩ | exact .inr ⟨_, rfl⟩
theorem f_ok (hT : T.Ok P) (H : HeapR ρ b0 h w) (hn : HNames nx h) (hsl : SlotsR ρ sl a.tmps) (hs : SNames nx sl) (s : TypeId) (x : Operand) (i : Nat) :
    ORok P ρ b0 h nx w (do pure (.value (← Instr.field s (a.eval x) i))) (opF T h nx sl s x i) := by
  have hx := ev_names hs x
  unfold opF symField
  rw [ev_den hsl x]
  split
  · rename_i ti cs hti he
    rw [he] at hx ⊢
    obtain ⟨d, hd, hst, _⟩ := (hT.ty s ti hti).und
    split
    · rename_i fs hfs
      rw [hfs] at hst
      obtain ⟨F, rfl, hF⟩ := hst
      split
      · rename_i p hp
        obtain ⟨f, hf, ho, ht⟩ := field_at hF hp
        rcases part_only (T := T) (h := h) (nx := nx) p.2 cs p.1 _ rfl with ⟨v, h', nx', hv⟩ | ⟨m, hm⟩
        · rw [hv]
          obtain ⟨h1, rfl, rfl, h2⟩ := part_run (P := P) (ρ := ρ) (w := w) hT p.2 cs p.1 v h' nx' hv
          refine okSame H hn v ?_ (fun m hm => hx m (by simp only [SV.names]; exact h2 m hm))
          simp [Instr.field, run_underlying hd, hf, SV.den, asAgg, ht, ho, h1]
        · rw [hm]; trivial
      · trivial
    · trivial
  · trivial
theorem place_ok (hρ : ρ.Ok) (hp : Holds ρ pc) (e : IE) : ∀ (n j : Nat) (v : SV) (h' : SHeap) (i : Nat), place pc e n j = .val v h' i → e.den ρ = (i : Int) ∧ j ≤ i ∧ i < j + n := by
  intro n
  induction n with
  | zero => intro j v h' i h; simp [place] at h
  | succ n ih =>
    intro j v h' i h
    simp only [place] at h
    split at h
    · rename_i hd
      cases h
      have := dec_den hρ hp _ _ hd
      rw [mkEq_den, decide_eq_true_iff, den_lit] at this
      exact ⟨this, by omega, by omega⟩
    · cases h
    · obtain ⟨h1, h2, h3⟩ := ih _ _ _ _ h
      exact ⟨h1, by omega, by omega⟩
theorem idx_ok (hρ : ρ.Ok) (hp : Holds ρ pc) (e : IE) (len : Nat) (v : SV) (h' : SHeap) (i : Nat) (hi : idx pc e len = .val v h' i) : e.den ρ = (i : Int) ∧ i < len := by
  unfold idx at hi
  split at hi
  · split at hi
    · rename_i j hj
      cases hi
      exact ⟨rfl, by simpa using hj⟩
    · cases hi
  · cases hi
  · split at hi
    · obtain ⟨h1, _, h3⟩ := place_ok hρ hp _ _ _ _ _ _ hi
      exact ⟨h1, by omega⟩
    · cases hi
theorem ia_ok (hT : T.Ok P) (hρ : ρ.Ok) (hp : Holds ρ pc) (H : HeapR ρ b0 h w) (hn : HNames nx h) (hsl : SlotsR ρ sl a.tmps) (hs : SNames nx sl) (t : TypeId) (x i : Operand) :
    ORok P ρ b0 h nx w (do pure (.value (← Instr.indexAt t (a.eval x) (a.eval i)))) (opIA T pc h nx sl t x i) := by
  have hx := ev_names hs x
  unfold opIA symIndexAddr
  rw [ev_den hsl x, ev_den hsl i]
  split
  · rename_i ti n off k e hti he hi
    rw [he] at hx ⊢
    rw [hi]
    obtain ⟨d, hd, hst, _⟩ := (hT.ty t ti hti).und
    split
    · rename_i len el hu
      rw [hu] at hst
      simp only [StOk] at hst
      subst hst
      split
      · rename_i te hte
        obtain ⟨i', z, hi', hsz, _, _⟩ := (hT.ty _ te hte).info
        split
        · rename_i j hj
          obtain ⟨h1, h2⟩ := idx_ok hρ hp e len _ _ j hj
          refine okSame H hn _ ?_ hx
          simp [Instr.indexAt, asIntOf, SV.den, run_underlying hd, Instr.sureAddr, h1, h2, run_sizeOf' hi', hsz]
          unfold Addr.add; split <;> simp_all
        · trivial
        · trivial
      · trivial
    · trivial
  · rename_i ti n off len cap k e hti he hi
    rw [he] at hx ⊢
    rw [hi]
    obtain ⟨d, hd, hst, _⟩ := (hT.ty t ti hti).und
    split
    · rename_i el hu
      rw [hu] at hst
      simp only [StOk] at hst
      subst hst
      split
      · rename_i te hte
        obtain ⟨i', z, hi', hsz, _, _⟩ := (hT.ty _ te hte).info
        split
        · rename_i j hj
          obtain ⟨h1, h2⟩ := idx_ok hρ hp e len _ _ j hj
          refine okSame H hn _ ?_ hx
          simp [Instr.indexAt, asIntOf, SV.den, run_underlying hd, Instr.sureAddr, h1, h2, run_sizeOf' hi', hsz]
          unfold Addr.add; split <;> simp_all
        · trivial
        · trivial
      · trivial
    · trivial
  · trivial
theorem i_ok (hT : T.Ok P) (hρ : ρ.Ok) (hp : Holds ρ pc) (H : HeapR ρ b0 h w) (hn : HNames nx h) (hsl : SlotsR ρ sl a.tmps) (hs : SNames nx sl) (t : TypeId) (x i : Operand) :
    ORok P ρ b0 h nx w (do pure (.value (← Instr.index t (a.eval x) (a.eval i)))) (opI T pc h nx sl t x i) := by
  have hx := ev_names hs x
  unfold opI symIndex
  rw [ev_den hsl x, ev_den hsl i]
  split
  · rename_i ti cs k e hti he hi
    rw [he] at hx ⊢
    rw [hi]
    obtain ⟨d, hd, hst, _⟩ := (hT.ty t ti hti).und
    split
    · rename_i len el hu
      rw [hu] at hst
      simp only [StOk] at hst
      subst hst
      split
      · rename_i te hte
        obtain ⟨i', z, hi', hsz, _, _⟩ := (hT.ty _ te hte).info
        split
        · rename_i j hj
          obtain ⟨h1, h2⟩ := idx_ok hρ hp e len _ _ j hj
          rcases part_only (T := T) (h := h) (nx := nx) el cs (j * te.size) _ rfl with ⟨v, h', nx', hv⟩ | ⟨m, hm⟩
          · rw [hv]
            obtain ⟨p1, rfl, rfl, p2⟩ := part_run (P := P) (ρ := ρ) (w := w) hT el cs (j * te.size) v h' nx' hv
            refine okSame H hn v ?_ (fun m hm => hx m (by simp only [SV.names]; exact p2 m hm))
            simp [Instr.index, asIntOf, SV.den, run_underlying hd, h1, h2, run_sizeOf' hi', hsz, p1]
          · rw [hm]; trivial
        · trivial
        · trivial
      · trivial
    · trivial
  · trivial
end
end Go.Proofs.Ytjgkaimgocnkmab.Sx
