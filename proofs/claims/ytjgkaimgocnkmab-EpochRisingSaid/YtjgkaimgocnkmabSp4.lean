/- A reckoner of Go's small steps over letters: the other operations. No condition. -/
import Derived.Test.YtjgkaimgocnkmabSp3
set_option linter.unusedVariables false
set_option linter.unusedSimpArgs false
namespace Go.Proofs.Ytjgkaimgocnkmab.Sx
open Go
section
variable {P : Program} {T : Tab} {ρ : Rho} {b0 : World} {pc : List BE} {h : SHeap} {nx : Nat} {w : World} {sl : Slots} {a : Act} {S : Sem Next}

theorem atom_any (x : BE) : True := trivial
/-- What an operation on two values does. -/
def BRok (P : Program) (ρ : Rho) (nx : Nat) (w : World) (S : Sem Value) : BR → Prop
  | .ok v => S.run P w = .ok (v.den ρ) w ∧ v.names = []
  | .split _ => True
  | .fail _ => True
theorem beq_dec (x y : Int) : (x == y) = decide (x = y) := by
  rw [Bool.eq_iff_iff]; simp
theorem intCmp_ok (op : BinOp) (k : IntKind) (xt : TypeId) (x y : Operand) (e f : IE) (c : BE) (hc : intCmp op e f = some c) :
    ((do eqGuard op xt x y (.int k (e.den ρ)) (.int k (f.den ρ)); binOp op xt (.int k (e.den ρ)) (.int k (f.den ρ))) : Sem Value).run P w = .ok (.bool (c.den ρ)) w := by
  cases op <;> simp [intCmp] at hc <;> subst hc <;>
    simp [eqGuard, binOp_eql, binOp_neq, binOp_lss, binOp_leq, binOp_gtr, binOp_geq, mkEq_den, mkNot_den, mkLe_den] <;>
    first
      | (rw [Bool.eq_iff_iff]; simp; done)
      | (rw [Bool.eq_iff_iff]; simp; omega)
      | skip
theorem intCmp_names (op : BinOp) (e f : IE) (c : BE) : (SV.bool c).names = [] := rfl
theorem symInt_ok (hρ : ρ.Ok) (hp : Holds ρ pc) (op : BinOp) (k : IntKind) (xt : TypeId) (x y : Operand) (e f : IE) (hs : isShift op = false) :
    BRok P ρ nx w ((do eqGuard op xt x y (.int k (e.den ρ)) (.int k (f.den ρ)); binOp op xt (.int k (e.den ρ)) (.int k (f.den ρ))) : Sem Value) (symInt pc op k e f) := by
  cases op <;> simp only [symInt] <;> try (simp [isShift] at hs; done)
  case add => exact ⟨by simp [eqGuard, binOp_add, Op.intArith, SV.den, mkAdd_den hρ hp], rfl⟩
  case sub => exact ⟨by simp [eqGuard, binOp_sub, Op.intArith, SV.den, mkSub_den hρ hp], rfl⟩
  case mul => exact ⟨by simp [eqGuard, binOp_mul, Op.intArith, SV.den, mkMul_den hρ hp], rfl⟩
  case and => exact ⟨by simp [eqGuard, binOp_and, Op.intBits, SV.den, mkBin_den, binI], rfl⟩
  case or => exact ⟨by simp [eqGuard, binOp_or, Op.intBits, SV.den, mkBin_den, binI], rfl⟩
  case xor => exact ⟨by simp [eqGuard, binOp_xor, Op.intBits, SV.den, mkBin_den, binI], rfl⟩
  case andNot => exact ⟨by simp [eqGuard, binOp_andNot, Op.intBits, SV.den, mkBin_den, binI], rfl⟩
  case quo =>
    split
    · rename_i hd
      have := dec_den hρ hp _ _ hd
      rw [mkEq_den, decide_eq_false_iff_not] at this
      simp only [den_lit] at this
      exact ⟨by simp [eqGuard, binOp_quo, Op.intDiv, SV.den, mkBin_den, binI, this], rfl⟩
    · trivial
    · trivial
  case rem =>
    split
    · rename_i hd
      have := dec_den hρ hp _ _ hd
      rw [mkEq_den, decide_eq_false_iff_not] at this
      simp only [den_lit] at this
      exact ⟨by simp [eqGuard, binOp_rem, Op.intDiv, SV.den, mkBin_den, binI, this], rfl⟩
    · trivial
    · trivial
  all_goals
    simp only [intCmp]
    exact ⟨intCmp_ok _ k xt x y e f _ rfl, rfl⟩
theorem inByte_ok (hρ : ρ.Ok) (hp : Holds ρ pc) {e : IE} (h : inByte pc e = true) : 0 ≤ e.den ρ ∧ e.den ρ ≤ 255 := by
  have hr := rng_in hρ hp e
  unfold inByte at h
  split at h
  · rename_i a b hab
    rw [hab] at hr
    split at h
    · rename_i h1
      rw [ileb_iff] at h1 h
      have := hr.1 a rfl
      have := hr.2 b rfl
      omega
    · cases h
  · cases h
theorem allByte_ok (hρ : ρ.Ok) (hp : Holds ρ pc) : ∀ (l : List IE), allByte pc l = true → ∀ e ∈ l, 0 ≤ e.den ρ ∧ e.den ρ ≤ 255
  | [], _, e, he => by simp at he
  | x :: l, h, e, he => by
    simp only [allByte] at h
    split at h
    · rename_i h1
      rcases List.mem_cons.1 he with rfl | he
      · exact inByte_ok hρ hp h1
      · exact allByte_ok hρ hp l h e he
    · cases h
theorem byte_back {n : Int} (h0 : 0 ≤ n) (h1 : n ≤ 255) : ((UInt8.ofNat n.toNat).toNat : Int) = n := by
  rw [UInt8.toNat_ofNat']
  omega
theorem bytesOf_toList (l : List Int) : (bytesOf l).toList = l.map fun n => UInt8.ofNat n.toNat := by
  rw [ByteArray.toList_eq]; simp [bytesOf]
theorem bytesOf_size (l : List Int) : (bytesOf l).size = l.length := by simp [bytesOf, ByteArray.size]
theorem bytesOf_append (l m : List Int) : bytesOf l ++ bytesOf m = bytesOf (l ++ m) := by
  apply ByteArray.ext
  rw [ByteArray.data_append]
  apply Array.ext'
  simp [bytesOf]
theorem eqBytes_den : ∀ (xs ys : List IE), xs.length = ys.length → (∀ e ∈ xs, 0 ≤ e.den ρ ∧ e.den ρ ≤ 255) → (∀ e ∈ ys, 0 ≤ e.den ρ ∧ e.den ρ ≤ 255) →
    (eqBytes xs ys).den ρ = ((xs.map (IE.den ρ)).map (fun n => UInt8.ofNat n.toNat) == (ys.map (IE.den ρ)).map (fun n => UInt8.ofNat n.toNat))
  | [], [], _, _, _ => by simp [eqBytes, BE.den]
  | a :: l, [], h, _, _ => by simp at h
  | [], b :: m, h, _, _ => by simp at h
  | a :: l, b :: m, h, hx, hy => by
    have ih := eqBytes_den l m (by simpa using h) (fun e he => hx e (List.mem_cons_of_mem _ he)) (fun e he => hy e (List.mem_cons_of_mem _ he))
    obtain ⟨a0, a1⟩ := hx a (List.mem_cons_self ..)
    obtain ⟨b0, b1⟩ := hy b (List.mem_cons_self ..)
    have key : (if a.beq b then BE.lit true else mkEq a b).den ρ = (UInt8.ofNat (a.den ρ).toNat == UInt8.ofNat (b.den ρ).toNat) := by
      have e1 : (UInt8.ofNat (a.den ρ).toNat == UInt8.ofNat (b.den ρ).toNat) = decide (a.den ρ = b.den ρ) := by
        rw [Bool.eq_iff_iff, decide_eq_true_iff, beq_iff_eq]
        constructor
        · intro he
          rw [← byte_back a0 a1, ← byte_back b0 b1, he]
        · intro he; rw [he]
      rw [e1]
      split
      · rename_i hb; rw [IE.beq_eq _ _ hb]; simp [BE.den]
      · exact mkEq_den _ _
    simp only [eqBytes, mkAnd_den, key, ih, List.map_cons]
    rfl
theorem lessBytes_den : ∀ (xs ys : List IE) (b : Bool), lessBytes xs ys = some b → (∀ e ∈ xs, 0 ≤ e.den ρ ∧ e.den ρ ≤ 255) → (∀ e ∈ ys, 0 ≤ e.den ρ ∧ e.den ρ ≤ 255) →
    Op.bytesLess ((xs.map (IE.den ρ)).map (fun n => UInt8.ofNat n.toNat)) ((ys.map (IE.den ρ)).map (fun n => UInt8.ofNat n.toNat)) = b
  | xs, [], b, h, _, _ => by simp [lessBytes] at h; subst h; cases xs <;> simp [Op.bytesLess]
  | [], y :: ys, b, h, _, _ => by simp [lessBytes] at h; subst h; simp [Op.bytesLess]
  | x :: xs, y :: ys, b, h, hx, hy => by
    cases x <;> cases y <;> simp only [lessBytes] at h <;> try (cases h; done)
    rename_i m n
    obtain ⟨a0, a1⟩ := hx _ (List.mem_cons_self ..)
    obtain ⟨c0, c1⟩ := hy _ (List.mem_cons_self ..)
    simp only [IE.den] at a0 a1 c0 c1
    have hlt : (UInt8.ofNat m.toNat < UInt8.ofNat n.toNat) ↔ m < n := by
      rw [UInt8.lt_iff_toNat_lt]
      have h1 := byte_back a0 a1
      have h2 := byte_back c0 c1
      omega
    have heq : (UInt8.ofNat m.toNat = UInt8.ofNat n.toNat) ↔ m = n := by
      constructor
      · intro he; rw [← byte_back a0 a1, ← byte_back c0 c1, he]
      · intro he; rw [he]
    simp only [List.map_cons, IE.den, Op.bytesLess]
    split at h
    · rename_i h1
      rw [ileb_iff] at h1
      have n1 : ¬ m < n := by omega
      split at h
      · rename_i h2
        rw [ileb_iff] at h2
        have e1 : m = n := by omega
        have ih := lessBytes_den xs ys b h (fun e he => hx e (List.mem_cons_of_mem _ he)) (fun e he => hy e (List.mem_cons_of_mem _ he))
        simp only [hlt, n1, decide_false, Bool.false_or, beq_iff_eq, heq, e1]
        simpa [e1] using ih
      · rename_i h2
        rw [ileb_iff] at h2
        cases h
        have e1 : ¬ m = n := by omega
        have e2 : (UInt8.ofNat m.toNat == UInt8.ofNat n.toNat) = false := by rw [beq_eq_false_iff_ne]; exact fun he => e1 (heq.1 he)
        simp [hlt, n1, e2]
    · rename_i h1
      rw [ileb_iff] at h1
      cases h
      have n1 : m < n := by omega
      simp [hlt, n1]
theorem symStr_ok (hρ : ρ.Ok) (hp : Holds ρ pc) (op : BinOp) (xt : TypeId) (x y : Operand) (xs ys : List IE) :
    BRok P ρ nx w ((do eqGuard op xt x y ((SV.str xs).den ρ) ((SV.str ys).den ρ); binOp op xt ((SV.str xs).den ρ) ((SV.str ys).den ρ)) : Sem Value) (symStr pc op xs ys) := by
  have hg : ∀ op : BinOp, (eqGuard op xt x y ((SV.str xs).den ρ) ((SV.str ys).den ρ)).run P w = .ok () w := by
    intro op; simp [eqGuard, SV.den]
  unfold symStr
  split
  · split
    · rename_i hle
      have hle' : xs.length + ys.length ≤ 1000000 := Nat.le_of_ble_eq_true hle
      refine ⟨?_, rfl⟩
      rw [Sem.run_bind, hg, Result.andThen_ok]
      have h63 : ¬ ((((bytesOf (xs.map (IE.den ρ))).size + (bytesOf (ys.map (IE.den ρ))).size : Nat) : Int) > IntKind.i64.max) := by
        rw [bytesOf_size, bytesOf_size]; simp [IntKind.max, IntKind.signed, IntKind.bits]; omega
      simp only [SV.den, binOp, Op.stringOp]
      rw [if_neg h63, bytesOf_append, List.map_append]; rfl
    · trivial
  · split
    · rename_i hx
      split
      · rename_i hy
        have bx := allByte_ok hρ hp _ hx
        have by' := allByte_ok hρ hp _ hy
        have heq : ((if Nat.beq xs.length ys.length then eqBytes xs ys else .lit false : BE)).den ρ = ((bytesOf (xs.map (IE.den ρ))).toList == (bytesOf (ys.map (IE.den ρ))).toList) := by
          rw [bytesOf_toList, bytesOf_toList]
          split
          · rename_i hl
            exact eqBytes_den xs ys (by simpa using hl) bx by'
          · rename_i hl
            symm
            simp only [BE.den]
            rw [beq_eq_false_iff_ne]
            intro he
            have := congrArg List.length he
            simp at this
            simp [this] at hl
        have hls : ∀ b, lessBytes xs ys = some b → Op.bytesLess (bytesOf (xs.map (IE.den ρ))).toList (bytesOf (ys.map (IE.den ρ))).toList = b := by
          intro b hb
          rw [bytesOf_toList, bytesOf_toList]
          exact lessBytes_den xs ys b hb bx by'
        split
        · refine ⟨?_, rfl⟩
          rw [Sem.run_bind, hg, Result.andThen_ok]
          simp only [SV.den, binOp, Op.stringOp, heq]; rfl
        · refine ⟨?_, rfl⟩
          rw [Sem.run_bind, hg, Result.andThen_ok]
          simp only [SV.den, binOp, Op.stringOp, mkNot_den, heq]; rfl
        · split
          · rename_i b hb
            refine ⟨?_, rfl⟩
            rw [Sem.run_bind, hg, Result.andThen_ok]
            simp only [SV.den, binOp, Op.stringOp, hls b hb]; rfl
          · trivial
        · split
          · rename_i b hb
            refine ⟨?_, rfl⟩
            rw [Sem.run_bind, hg, Result.andThen_ok]
            simp only [SV.den, binOp, Op.stringOp, hls b hb]; rfl
          · trivial
        · trivial
      · trivial
    · trivial
abbrev RTyped (roms : List (Nat × (Nat × List CK))) (ρ : Rho) : Prop := ∀ r esz ks, lk roms r = some (esz, ks) → Typed ks (ρ.z.rl r)
theorem byteL_size (l : LV) : (byteL l).size = l.length := by
  unfold byteL; rw [bytesOf_size]; simp
theorem byteL_append (a b : LV) : byteL a ++ byteL b = byteL (a ++ b) := by
  unfold byteL; rw [bytesOf_append]; simp
theorem conf_byte_inv {e : List Value} (h : conf byteK e = true) : ∃ n, e = [.int .u8 n] ∧ 0 ≤ n ∧ n ≤ 255 := by
  obtain ⟨v, vs, rfl, h1, h2⟩ := conf_cons h
  cases vs with
  | nil =>
    cases v <;> simp [conf1, keq_iff, ileb_iff] at h1
    obtain ⟨rfl, a1, a2⟩ := h1
    exact ⟨_, rfl, a1, a2⟩
  | cons u us => simp [conf] at h2
theorem strV_byteL : ∀ {l : LV}, Typed byteK l → strV (.string (byteL l)) = l := by
  intro l h
  have hm : ∀ (m : LV), Typed byteK m → m.map (fun c => [Value.int .u8 (((UInt8.ofNat (intV (c.headD (.bool false))).toNat).toNat : Nat) : Int)]) = m := by
    intro m hm
    induction m with
    | nil => rfl
    | cons e m ih =>
      obtain ⟨n, rfl, h0, h1⟩ := conf_byte_inv (hm e (List.mem_cons_self ..))
      have := ih (fun x hx => hm x (List.mem_cons_of_mem _ hx))
      have hb : ((UInt8.ofNat n.toNat).toNat : Int) = n := byte_back h0 h1
      rw [List.map_cons, this]
      simp only [List.headD_cons, intV, hb]
  unfold strV byteL bytesOf
  simpa [List.map_map, Function.comp_def] using hm l h
theorem byteL_eq {a b : LV} (ha : Typed byteK a) (hb : Typed byteK b) : ((byteL a).toList == (byteL b).toList) = eqV a b := by
  unfold eqV
  by_cases h : a = b
  · subst h; simp
  · have : (byteL a).toList ≠ (byteL b).toList := by
      intro he
      apply h
      rw [← strV_byteL ha, ← strV_byteL hb]
      have : byteL a = byteL b := by
        have e1 : ∀ s : ByteArray, s.toList = s.data.toList := by
          intro s
          obtain ⟨d⟩ := s
          have hid : (d.toList.map fun u => (u.toNat : Int)).map (fun n => UInt8.ofNat n.toNat) = d.toList := by
            rw [List.map_map]
            conv => rhs; rw [← List.map_id d.toList]
            apply List.map_congr_left
            intro u _
            simp
          have := bytesOf_toList (d.toList.map fun u => (u.toNat : Int))
          have e2 : bytesOf (d.toList.map fun u => (u.toNat : Int)) = ⟨d⟩ := by unfold bytesOf; rw [hid]
          rw [e2, hid] at this
          exact this
        rw [e1, e1] at he
        exact ByteArray.ext (Array.ext' he)
      rw [this]
    simp [h, this]
theorem asL_ok (hρ : ρ.Ok) (hp : Holds ρ pc) {roms : List (Nat × (Nat × List CK))} (hr : RTyped roms ρ) {x : SV} {l : LE} (h : asL roms pc x = some l) : x.den ρ = .string (byteL (l.den ρ)) ∧ Typed byteK (l.den ρ) := by
  unfold asL at h
  split at h
  · split at h
    · rename_i ht
      cases h
      exact ⟨by simp only [SV.den], typedB_ok hρ hp hr _ ht⟩
    · cases h
  · split at h
    · rename_i ht
      cases h
      exact ⟨by simp only [SV.den, strL_byteL], allK_ok hρ hp _ ht⟩
    · cases h
  · cases h
theorem eqLs_den (hρ : ρ.Ok) (hp : Holds ρ pc) (l m : LE) : (eqLs pc l m).den ρ = eqV (l.den ρ) (m.den ρ) := by
  have e0 : ∀ x : LV, eqV [] x = decide (((x.length : Int)) = 0) := by
    intro x
    unfold eqV
    cases x with
    | nil => simp
    | cons a x => simp; omega
  have e1 : ∀ x : LV, eqV x [] = decide (((x.length : Int)) = 0) := by
    intro x
    unfold eqV
    cases x with
    | nil => simp
    | cons a x => simp; omega
  unfold eqLs
  split
  · rw [mkEq_den, lenE_den hρ hp]; simp only [LE.den, IE.den]; exact (e0 _).symm
  · rw [mkEq_den, lenE_den hρ hp]; simp only [LE.den, IE.den]; exact (e1 _).symm
  · rw [mkLeq_den]
theorem symLstr_ok (hρ : ρ.Ok) (hp : Holds ρ pc) {T : Tab} (hr : RTyped T.orac.rom ρ) (op : BinOp) (xt : TypeId) (x y : Operand) (u v : SV) :
    BRok P ρ nx w ((do eqGuard op xt x y (u.den ρ) (v.den ρ); binOp op xt (u.den ρ) (v.den ρ)) : Sem Value) (symLstr T pc op u v) := by
  unfold symLstr
  split
  · rename_i l m hl hm
    obtain ⟨a1, a2⟩ := asL_ok hρ hp hr hl
    obtain ⟨b1, b2⟩ := asL_ok hρ hp hr hm
    have hg : ∀ op : BinOp, (eqGuard op xt x y (.string (byteL (l.den ρ))) (.string (byteL (m.den ρ)))).run P w = .ok () w := by
      intro op; simp [eqGuard]
    rw [a1, b1]
    split
    · refine ⟨?_, rfl⟩
      rw [Sem.run_bind, hg, Result.andThen_ok]
      simp only [SV.den, binOp, Op.stringOp, byteL_eq a2 b2, eqLs_den hρ hp]; rfl
    · refine ⟨?_, rfl⟩
      rw [Sem.run_bind, hg, Result.andThen_ok]
      simp only [SV.den, binOp, Op.stringOp, byteL_eq a2 b2, mkNot_den, eqLs_den hρ hp]; rfl
    · split
      · rename_i hd
        have hle := dec_le hρ hp hd
        rw [addE_den, lenE_den hρ hp, lenE_den hρ hp] at hle
        simp only [IE.den] at hle
        refine ⟨?_, rfl⟩
        rw [Sem.run_bind, hg, Result.andThen_ok]
        have h63 : ¬ ((((byteL (l.den ρ)).size + (byteL (m.den ρ)).size : Nat) : Int) > IntKind.i64.max) := by
          rw [byteL_size, byteL_size]; simp [IntKind.max, IntKind.signed, IntKind.bits]; omega
        simp only [SV.den, binOp, Op.stringOp]
        rw [if_neg h63, byteL_append, catE_den]; rfl
      · trivial
    · trivial
  · trivial
theorem rnilE_den {T : Tab} {pc : List BE} (hρ : ρ.Ok) (hp : Holds ρ pc) (hrom : RomOk T.orac b0 ρ) (r : Nat) : (rnilE T pc r).den ρ = (ρ.z.ra r).isNone := by
  unfold rnilE
  split
  · rename_i q hq
    split
    · rename_i hd
      have h1 := dec_den hρ hp _ _ hd
      simp only [BE.den, IE.den, LE.den, lenV] at h1
      have h1 := of_decide_eq_true h1
      obtain ⟨_, _, _, r2, _⟩ := hrom.2 r q.1 q.2 hq
      rw [(r2 (by omega)).1]
      simp [BE.den]
    · simp [BE.den]
  · simp [BE.den]
theorem symRnil_ok {T : Tab} {pc : List BE} (hT : T.Ok P) (hρ : ρ.Ok) (hp : Holds ρ pc) (hrom : RomOk T.orac b0 ρ) (op : BinOp) (xt : TypeId) (x y : Operand) (r : Nat) (off len : IE) (cap : Option IE) :
    BRok P ρ nx w ((do eqGuard op xt x y ((SV.rom r off len cap).den ρ) ((SV.const (.slice none 0 0)).den ρ); binOp op xt ((SV.rom r off len cap).den ρ) ((SV.const (.slice none 0 0)).den ρ)) : Sem Value) (symRnil T pc op xt r) := by
  unfold symRnil
  split
  · rename_i ti hti
    obtain ⟨d, hd, hst, _⟩ := (hT.ty xt ti hti).und
    have he : ∀ D : Nat, (∃ e, d = .slice e) → (Op.equalIn (D + 1) xt ((SV.rom r off len cap).den ρ) (.slice none 0 0)).run P w = .ok (ρ.z.ra r).isNone w := by
      intro D hs
      obtain ⟨e, rfl⟩ := hs
      cases hra : ρ.z.ra r <;> simp [Op.equalIn, run_underlying hd, SV.den, hra]
    split
    · rename_i e hu
      rw [hu] at hst
      simp only [StOk] at hst
      refine ⟨?_, rfl⟩
      have := he 9999 ⟨_, hst⟩
      have h2 : (Op.equal xt ((SV.rom r off len cap).den ρ) (.slice none 0 0)).run P w = .ok (ρ.z.ra r).isNone w := this
      rw [Sem.run_bind]
      have hg : (eqGuard .eql xt x y ((SV.rom r off len cap).den ρ) ((SV.const (.slice none 0 0)).den ρ)).run P w = .ok () w := by simp [eqGuard, SV.den]
      rw [hg, Result.andThen_ok]
      have h3 : binOp .eql xt ((SV.rom r off len cap).den ρ) ((SV.const (.slice none 0 0)).den ρ) = (do pure (.bool (← Op.equal xt ((SV.rom r off len cap).den ρ) (.slice none 0 0)))) := rfl
      rw [h3, Sem.run_bind, h2]; simp only [SV.den, rnilE_den hρ hp hrom]; rfl
    · rename_i e hu
      rw [hu] at hst
      simp only [StOk] at hst
      refine ⟨?_, rfl⟩
      have := he 9999 ⟨_, hst⟩
      have h2 : (Op.equal xt ((SV.rom r off len cap).den ρ) (.slice none 0 0)).run P w = .ok (ρ.z.ra r).isNone w := this
      rw [Sem.run_bind]
      have hg : (eqGuard .neq xt x y ((SV.rom r off len cap).den ρ) ((SV.const (.slice none 0 0)).den ρ)).run P w = .ok () w := by simp [eqGuard, SV.den]
      rw [hg, Result.andThen_ok]
      have h3 : binOp .neq xt ((SV.rom r off len cap).den ρ) ((SV.const (.slice none 0 0)).den ρ) = (do pure (.bool (!(← Op.equal xt ((SV.rom r off len cap).den ρ) (.slice none 0 0))))) := rfl
      rw [h3, Sem.run_bind, h2]; simp only [SV.den, mkNot_den, rnilE_den hρ hp hrom]; rfl
    · trivial
  · trivial
theorem equal_nil {t : TypeId} {d : TypeDesc} (hd : P.underlying t = some d) {s : ST} (hst : StOk s d) {u v : SV} {b : Bool} (h : eqNil s u v = some b) : (Op.equal t (u.den ρ) (v.den ρ)).run P w = .ok b w := by
  have key : ∀ D, (Op.equalIn (D + 1) t (u.den ρ) (v.den ρ)).run P w = .ok b w := ?_
  · exact key 9999
  intro D
  unfold eqNil at h
  split at h <;> first
    | (cases h; done)
    | (simp only [Option.some.injEq] at h; subst h; simp only [StOk] at hst; first
        | (subst hst; simp [Op.equalIn, run_underlying hd, SV.den]; done)
        | (obtain ⟨_, rfl⟩ := hst; simp [Op.equalIn, run_underlying hd, SV.den]; done)
        | (obtain ⟨_, _, _, rfl⟩ := hst; simp [Op.equalIn, run_underlying hd, SV.den]; done))
theorem eqNil_shape {s : ST} {u v : SV} {b : Bool} (h : eqNil s u v = some b) (op : BinOp) (xt : TypeId) (x y : Operand) : (eqGuard op xt x y (u.den ρ) (v.den ρ)).run P w = .ok () w ∧ binOp .eql xt (u.den ρ) (v.den ρ) = (do pure (.bool (← Op.equal xt (u.den ρ) (v.den ρ)))) ∧ binOp .neq xt (u.den ρ) (v.den ρ) = (do pure (.bool (!(← Op.equal xt (u.den ρ) (v.den ρ))))) := by
  unfold eqNil at h
  split at h <;> first
    | (cases h; done)
    | (refine ⟨?_, rfl, rfl⟩; cases op <;> simp [eqGuard, SV.den])
theorem symNil_ok (hT : T.Ok P) (op : BinOp) (xt : TypeId) (x y : Operand) (u v : SV) :
    BRok P ρ nx w ((do eqGuard op xt x y (u.den ρ) (v.den ρ); binOp op xt (u.den ρ) (v.den ρ)) : Sem Value) (symNil T op xt u v) := by
  unfold symNil
  split
  · rename_i ti hti
    obtain ⟨d, hd, hst, _⟩ := (hT.ty xt ti hti).und
    split
    · rename_i b hb
      have he := equal_nil (P := P) (ρ := ρ) (w := w) hd hst hb
      obtain ⟨h1, h2, h3⟩ := eqNil_shape (P := P) (ρ := ρ) (w := w) hb op xt x y
      split
      · refine ⟨?_, rfl⟩
        rw [Sem.run_bind, h1, Result.andThen_ok, h2, Sem.run_bind, he]; rfl
      · refine ⟨?_, rfl⟩
        rw [Sem.run_bind, h1, Result.andThen_ok, h3, Sem.run_bind, he]; rfl
      · trivial
    · trivial
  · trivial
theorem symBin_ok (hT : T.Ok P) (hρ : ρ.Ok) (hp : Holds ρ pc) (hrom : RomOk T.orac b0 ρ) (op : BinOp) (xt : TypeId) (x y : Operand) (u v : SV) :
    BRok P ρ nx w ((do eqGuard op xt x y (u.den ρ) (v.den ρ); binOp op xt (u.den ρ) (v.den ρ)) : Sem Value) (symBin T pc op xt u v) := by
  unfold symBin
  split
  · rename_i k e j f
    split
    · rename_i hs
      split
      · rename_i hd
        have := dec_den hρ hp _ _ hd
        rw [mkLe_den, decide_eq_true_iff] at this
        simp only [den_lit] at this
        have h0 : ¬ f.den ρ < 0 := by omega
        cases op <;> simp [isShift] at hs
        · exact ⟨by simp [eqGuard, SV.den, binOp_shl, Op.shift, h0, mkBin_den, binI], rfl⟩
        · exact ⟨by simp [eqGuard, SV.den, binOp_shr, Op.shift, h0, mkBin_den, binI], rfl⟩
      · trivial
      · trivial
    · rename_i hs
      split
      · rename_i hk
        have := (keq_iff _ _).1 hk
        subst this
        exact symInt_ok hρ hp op k xt x y e f (by simpa using hs)
      · trivial
  · rename_i b c
    split
    · rename_i ti hti
      obtain ⟨d, hd, hst, _⟩ := (hT.ty xt ti hti).und
      split
      · rename_i hu
        rw [hu] at hst
        simp only [StOk] at hst
        subst hst
        exact ⟨by simp [SV.den, eqGuard, binOp, run_equal_bool w xt _ _ hd, mkIff_den], rfl⟩
      · rename_i hu
        rw [hu] at hst
        simp only [StOk] at hst
        subst hst
        exact ⟨by simp [SV.den, eqGuard, binOp, run_equal_bool w xt _ _ hd, mkIff_den, mkNot_den], rfl⟩
      · trivial
    · trivial
  · rename_i xs ys
    split
    · rename_i ks hks
      split
      · rename_i c hc
        obtain ⟨h1, h2⟩ := hT.eqs xt ks hks ρ xs ys c w x y hc
        split
        · exact ⟨by simpa [SV.den] using h1, rfl⟩
        · exact ⟨by simpa [SV.den, mkNot_den] using h2, rfl⟩
        · trivial
      · trivial
    · trivial
  · exact symStr_ok hρ hp op xt x y _ _
  · exact symLstr_ok hρ hp hrom.typed op xt x y _ _
  · exact symLstr_ok hρ hp hrom.typed op xt x y _ _
  · exact symRnil_ok hT hρ hp hrom op xt x y _ _ _ _
  · exact symNil_ok hT op xt x y _ _
theorem bin_ok (hT : T.Ok P) (hρ : ρ.Ok) (hp : Holds ρ pc) (hrom : RomOk T.orac b0 ρ) (H : HeapR ρ b0 h w) (hn : HNames nx h) (hsl : SlotsR ρ sl a.tmps) (hs : SNames nx sl) (op : BinOp) (xt : TypeId) (x y : Operand) :
    ORok P ρ b0 h nx w (do pure (.value (← (do eqGuard op xt x y (a.eval x) (a.eval y); binOp op xt (a.eval x) (a.eval y))))) (opBin T pc h nx sl op xt x y) := by
  have hb := symBin_ok (P := P) (nx := nx) (w := w) hT hρ hp hrom op xt x y (ev sl x) (ev sl y)
  unfold opBin
  rw [ev_den hsl x, ev_den hsl y]
  split
  · rename_i v hv
    rw [hv] at hb
    rw [fSV_eq]
    obtain ⟨h1, h2⟩ := hb
    refine okSame H hn v ?_ (fun m hm => by rw [h2] at hm; cases hm)
    rw [Sem.run_bind, h1]; rfl
  · trivial
  · trivial
theorem un_ok (hρ : ρ.Ok) (hp : Holds ρ pc) (H : HeapR ρ b0 h w) (hn : HNames nx h) (hsl : SlotsR ρ sl a.tmps) (op : UnOp) (x : Operand) :
    ORok P ρ b0 h nx w (do pure (.value (← Op.unary op (a.eval x)))) (opUn pc h nx sl op x) := by
  unfold opUn
  rw [ev_den hsl x]
  split
  · rename_i v hv
    rw [fSV_eq]
    unfold symUn at hv
    split at hv
    · rename_i b hb
      cases hv
      rw [hb]
      exact okSame H hn _ (by simp [SV.den, Op.unary, mkNot_den]) (fun m hm => by cases hm)
    · rename_i k e he
      cases hv
      rw [he]
      exact okSame H hn _ (by simp [SV.den, Op.unary, Op.intArith, mkSub_den hρ hp, den_lit]) (fun m hm => by cases hm)
    · rename_i k e he
      cases hv
      rw [he]
      exact okSame H hn _ (by simp [SV.den, Op.unary, Op.intBits, mkBin_den, den_lit, binI]) (fun m hm => by cases hm)
    · cases hv
  · trivial
theorem convI_ok (hT : T.Ok P) (hρ : ρ.Ok) (hp : Holds ρ pc) (H : HeapR ρ b0 h w) (hn : HNames nx h) (hsl : SlotsR ρ sl a.tmps) (src dst : TypeId) (x : Operand) :
    ORok P ρ b0 h nx w (do pure (.value (← convert src dst (a.eval x)))) (opConvI T pc h nx sl src dst x) := by
  unfold opConvI
  rw [ev_den hsl x]
  split
  · rename_i v hv
    rw [fSV_eq]
    unfold symConv at hv
    split at hv
    · rename_i ts td k e h1 h2 h3
      split at hv
      · rename_i k' hk
        cases hv
        obtain ⟨d1, e1, _, _⟩ := (hT.ty src ts h1).und
        obtain ⟨d2, e2, s2, _⟩ := (hT.ty dst td h2).und
        rw [hk] at s2
        simp only [StOk] at s2
        subst s2
        rw [h3]
        exact okSame H hn _ (by simp [SV.den, convert, run_underlying e1, run_underlying e2, Conv.intToInt, mkConv_den hρ hp]) (fun m hm => by cases hm)
      · cases hv
    · cases hv
  · trivial
theorem field_at {F : Array Field} {fs : List (Nat × TypeId)} (hF : F.toList.map (fun f => (f.offset, f.type)) = fs) {i : Nat} {p : Nat × TypeId} (hp : nth fs i = some p) :
    ∃ f, F[i]? = some f ∧ f.offset = p.1 ∧ f.type = p.2 := by
  rw [nth_eq, ← hF] at hp
  simp at hp
  obtain ⟨f, h1, h2⟩ := hp
  exact ⟨f, h1, by rw [← h2], by rw [← h2]⟩
theorem fa_ok (hT : T.Ok P) (H : HeapR ρ b0 h w) (hn : HNames nx h) (hsl : SlotsR ρ sl a.tmps) (hs : SNames nx sl) (s : TypeId) (x : Operand) (i : Nat) :
    ORok P ρ b0 h nx w (do pure (.value (← Instr.fieldAt s (a.eval x) i))) (opFA T h nx sl s x i) := by
  have hx := ev_names hs x
  unfold opFA symFieldAddr
  rw [ev_den hsl x]
  split
  · rename_i ti n off hti he
    rw [he] at hx ⊢
    obtain ⟨d, hd, hst, _⟩ := (hT.ty s ti hti).und
    split
    · rename_i fs hfs
      rw [hfs] at hst
      obtain ⟨F, rfl, hF⟩ := hst
      split
      · rename_i p hp
        obtain ⟨f, hf, ho, ht⟩ := field_at hF hp
        split
        · rename_i tf htf
          obtain ⟨i', z, hi, hsz, _, _, _⟩ := (hT.ty _ tf htf).info
          split
          · trivial
          · rename_i h0
            refine okSame H hn _ ?_ hx
            have h0' : ¬ i'.size = 0 := by rw [hsz]; simpa using h0
            simp [Instr.fieldAt, run_underlying hd, hf, SV.den, Instr.sureAddr, fieldPlace, ht, run_sizeOf' hi, h0', ho]
            unfold Addr.add; split <;> simp_all
        · trivial
      · trivial
    · trivial
  · rename_i ti r e c hti he
    rw [he] at hx ⊢
    obtain ⟨d, hd, hst, _⟩ := (hT.ty s ti hti).und
    split
    · rename_i fs hfs
      rw [hfs] at hst
      obtain ⟨F, rfl, hF⟩ := hst
      split
      · rename_i p hp
        obtain ⟨f, hf, ho, ht⟩ := field_at hF hp
        split
        · rename_i tf htf
          obtain ⟨i', z, hi, hsz, _, _, _⟩ := (hT.ty _ tf htf).info
          split
          · trivial
          · rename_i h0
            refine okSame H hn _ ?_ (fun m hm => by cases hm)
            have h0' : ¬ i'.size = 0 := by rw [hsz]; simpa using h0
            simp [Instr.fieldAt, run_underlying hd, hf, SV.den, Instr.sureAddr, fieldPlace, ht, run_sizeOf' hi, h0', ho]
            unfold Addr.add; split <;> simp_all [Nat.add_assoc]
        · trivial
      · trivial
    · trivial
  · rename_i ti n zz e c hti he
    rw [he] at hx ⊢
    obtain ⟨d, hd, hst, _⟩ := (hT.ty s ti hti).und
    split
    · rename_i fs hfs
      rw [hfs] at hst
      obtain ⟨F, rfl, hF⟩ := hst
      split
      · rename_i p hp
        obtain ⟨f, hf, ho, ht⟩ := field_at hF hp
        split
        · rename_i tf htf
          obtain ⟨i', z, hi, hsz, _, _, _⟩ := (hT.ty _ tf htf).info
          split
          · trivial
          · rename_i h0
            refine okSame H hn _ ?_ (fun m hm => hx m (by simpa [SV.names] using hm))
            have h0' : ¬ i'.size = 0 := by rw [hsz]; simpa using h0
            simp [Instr.fieldAt, run_underlying hd, hf, SV.den, Instr.sureAddr, fieldPlace, ht, run_sizeOf' hi, h0', ho]
            unfold Addr.add; split <;> simp_all [Nat.add_assoc]
        · trivial
      · trivial
    · trivial
  · trivial
theorem part_run (hT : T.Ok P) (t : TypeId) (cs : List SV) (off : Nat) (v : SV) (h' : SHeap) (nx' : Nat) (hv : symPart T h nx t cs off = .val v h' nx') :
    (part t (SV.denL ρ cs).toArray off).run P w = .ok (v.den ρ) w ∧ h' = h ∧ nx' = nx ∧ ∀ m ∈ v.names, m ∈ SV.namesL cs := by
  unfold symPart at hv
  split at hv
  · rename_i ti hti
    obtain ⟨d, hd, _, hag⟩ := (hT.ty t ti hti).und
    obtain ⟨i, z, hi, hsz, _, _⟩ := (hT.ty t ti hti).info
    split at hv
    · rename_i ha
      cases hv
      have hr : d.isRow = true := by rw [← hag]; exact ha
      refine ⟨?_, rfl, rfl, ?_⟩
      · simp [part, run_isAgg hd, hr, run_sizeOf' hi, hsz, SV.den, denL_take, denL_drop]
      · intro m hm
        simp only [SV.names] at hm
        obtain ⟨v, hv, h2⟩ := mem_namesL.1 hm
        exact mem_namesL.2 ⟨v, List.mem_of_mem_drop (List.mem_of_mem_take hv), h2⟩
    · rename_i ha
      have hr : d.isRow = false := by rw [← hag]; simpa using ha
      split at hv
      · rename_i v' hv'
        cases hv
        rw [nth_eq] at hv'
        exact ⟨by simp [part, run_isAgg hd, hr, denL_get, hv'], rfl, rfl, fun m hm => mem_namesL.2 ⟨v, List.mem_of_getElem? hv', hm⟩⟩
      · cases hv
  · cases hv
theorem part_only (t : TypeId) (cs : List SV) (off : Nat) : ∀ r, symPart T h nx t cs off = r → (∃ v h' nx', r = .val v h' nx') ∨ ∃ n, r = .fail n := by
  intro r hr
  unfold symPart at hr
  (repeat' split at hr) <;> subst hr <;> first | exact .inl ⟨_, _, _, rfl⟩ | exact .inr ⟨_, rfl⟩
theorem f_ok (hT : T.Ok P) (H : HeapR ρ b0 h w) (hn : HNames nx h) (hsl : SlotsR ρ sl a.tmps) (hs : SNames nx sl) (s : TypeId) (x : Operand) (i : Nat) :
    ORok P ρ b0 h nx w (do pure (.value (← Instr.field s (a.eval x) i))) (opF T h nx sl s x i) := by
  have hx := ev_names hs x
  unfold opF symField
  rw [ev_den hsl x]
  split
  · rename_i ti cs hti he
    rw [he] at hx ⊢
    obtain ⟨d, hd, hst, _⟩ := (hT.ty s ti hti).und
    split
    · rename_i fs hfs
      rw [hfs] at hst
      obtain ⟨F, rfl, hF⟩ := hst
      split
      · rename_i p hp
        obtain ⟨f, hf, ho, ht⟩ := field_at hF hp
        rcases part_only (T := T) (h := h) (nx := nx) p.2 cs p.1 _ rfl with ⟨v, h', nx', hv⟩ | ⟨m, hm⟩
        · rw [hv]
          obtain ⟨h1, rfl, rfl, h2⟩ := part_run (P := P) (ρ := ρ) (w := w) hT p.2 cs p.1 v h' nx' hv
          refine okSame H hn v ?_ (fun m hm => hx m (by simp only [SV.names]; exact h2 m hm))
          simp [Instr.field, run_underlying hd, hf, SV.den, asAgg, ht, ho, h1]
        · rw [hm]; trivial
      · trivial
    · trivial
  · trivial
theorem place_ok (hρ : ρ.Ok) (hp : Holds ρ pc) (e : IE) : ∀ (n j : Nat) (v : SV) (h' : SHeap) (i : Nat), place pc e n j = .val v h' i → e.den ρ = (i : Int) ∧ j ≤ i ∧ i < j + n := by
  intro n
  induction n with
  | zero => intro j v h' i h; simp [place] at h
  | succ n ih =>
    intro j v h' i h
    simp only [place] at h
    split at h
    · rename_i hd
      split at h
      · rename_i hd2
        cases h
        have h1 := dec_den hρ hp _ _ hd
        have h2 := dec_den hρ hp _ _ hd2
        rw [mkLe_den, decide_eq_true_iff, den_lit] at h1 h2
        exact ⟨by omega, by omega, by omega⟩
      · cases h
      · cases h
    · cases h
    · obtain ⟨h1, h2, h3⟩ := ih _ _ _ _ h
      exact ⟨h1, by omega, by omega⟩
theorem idx_ok (hρ : ρ.Ok) (hp : Holds ρ pc) (e : IE) (len : Nat) (v : SV) (h' : SHeap) (i : Nat) (hi : idx pc e len = .val v h' i) : e.den ρ = (i : Int) ∧ i < len := by
  unfold idx at hi
  split at hi
  · split at hi
    · rename_i j hj
      cases hi
      exact ⟨rfl, by simpa using hj⟩
    · cases hi
  · cases hi
  · split at hi
    · obtain ⟨h1, _, h3⟩ := place_ok hρ hp _ _ _ _ _ _ hi
      exact ⟨h1, by omega⟩
    · cases hi
theorem addr_add' (b o n : Nat) : (⟨b, o, none⟩ : Addr).add n = ⟨b, o + n, none⟩ := by
  unfold Addr.add; split <;> simp_all
theorem ia_ok (hT : T.Ok P) (hρ : ρ.Ok) (hp : Holds ρ pc) (hrom : RomOk T.orac b0 ρ) (H : HeapR ρ b0 h w) (hn : HNames nx h) (hsl : SlotsR ρ sl a.tmps) (hs : SNames nx sl) (t : TypeId) (x i : Operand) :
    ORok P ρ b0 h nx w (do pure (.value (← Instr.indexAt t (a.eval x) (a.eval i)))) (opIA T pc h nx sl t x i) := by
  have hx := ev_names hs x
  unfold opIA symIndexAddr
  rw [ev_den hsl x, ev_den hsl i]
  split
  · rename_i ti n off k e hti he hi
    rw [he] at hx ⊢
    rw [hi]
    obtain ⟨d, hd, hst, _⟩ := (hT.ty t ti hti).und
    split
    · rename_i len el hu
      rw [hu] at hst
      simp only [StOk] at hst
      subst hst
      split
      · rename_i te hte
        obtain ⟨i', z, hi', hsz, _, _, _⟩ := (hT.ty _ te hte).info
        split
        · rename_i j hj
          obtain ⟨h1, h2⟩ := idx_ok hρ hp e len _ _ j hj
          refine okSame H hn _ ?_ hx
          simp [Instr.indexAt, asIntOf, SV.den, run_underlying hd, Instr.sureAddr, h1, h2, run_sizeOf' hi', hsz]
          unfold Addr.add; split <;> simp_all
        · trivial
        · trivial
      · trivial
    · trivial
  · rename_i ti n off len cap k e hti he hi
    rw [he] at hx ⊢
    rw [hi]
    obtain ⟨d, hd, hst, _⟩ := (hT.ty t ti hti).und
    split
    · rename_i el hu
      rw [hu] at hst
      simp only [StOk] at hst
      subst hst
      split
      · rename_i te hte
        obtain ⟨i', z, hi', hsz, _, _, _⟩ := (hT.ty _ te hte).info
        split
        · rename_i j hj
          obtain ⟨h1, h2⟩ := idx_ok hρ hp e len _ _ j hj
          refine okSame H hn _ ?_ hx
          simp [Instr.indexAt, asIntOf, SV.den, run_underlying hd, Instr.sureAddr, h1, h2, run_sizeOf' hi', hsz]
          unfold Addr.add; split <;> simp_all
        · trivial
        · trivial
      · trivial
    · trivial
  · rename_i ti n cn sz off len k e hti he hi
    rw [he] at hx ⊢
    rw [hi]
    obtain ⟨d, hd, hst, _⟩ := (hT.ty t ti hti).und
    split
    · rename_i el hu
      rw [hu] at hst
      simp only [StOk] at hst
      subst hst
      split
      · rename_i te hte
        obtain ⟨i', z, hi', hsz, _, _, _⟩ := (hT.ty _ te hte).info
        split
        · rename_i j hj
          obtain ⟨h1, h2⟩ := idx_ok hρ hp e len _ _ j hj
          split
          · rename_i hz
            have hz' : te.size = sz := by simpa using hz
            refine okSame H hn _ ?_ (fun m hm => hx m (by simp [SV.names] at hm ⊢; exact .inl hm))
            simp [Instr.indexAt, asIntOf, SV.den, run_underlying hd, Instr.sureAddr, h1, h2, run_sizeOf' hi', hsz, hz']
            unfold Addr.add; split <;> simp_all
          · trivial
        · trivial
        · trivial
      · trivial
    · trivial
  · rename_i ti r off len cap k e hti he hi
    rw [he] at hx ⊢
    rw [hi]
    obtain ⟨d, hd, hst, _⟩ := (hT.ty t ti hti).und
    split
    · rename_i el hu
      rw [hu] at hst
      simp only [StOk] at hst
      subst hst
      split
      · rename_i te esz cl hte hr
        obtain ⟨i', z, hi', hsz, _, _, _⟩ := (hT.ty _ te hte).info
        obtain ⟨r0, r1, _, r2, _⟩ := hrom.2 r esz cl hr
        split
        · rename_i hz
          have hz' : te.size = esz := by simpa using hz
          refine needO_ok hρ hp (fun hd0 => needO_ok hρ hp (fun hd1 => needO_ok hρ hp (fun hd2 => needO_ok hρ hp (fun hd3 => ?_))))
          have g0 := le_t hd0
          have g1 := nle_t hd1
          have g2 := le_t hd2
          have g3 := nle_t hd3
          rw [lit_den] at g0 g2
          rw [resI_den hρ hp] at g2
          rw [addE_den, resI_den hρ hp] at g3
          simp only [IE.den, LE.den, lenV] at g3
          obtain ⟨r3, _⟩ := r2 (by omega)
          refine okSame H hn _ ?_ (fun m hm => by cases hm)
          have g4 : e.den ρ < ((len.den ρ).toNat : Int) := by omega
          have g5 : ((off.den ρ + e.den ρ)).toNat = (off.den ρ).toNat + (e.den ρ).toNat := by omega
          have g6 : (off.den ρ).toNat * esz + (e.den ρ).toNat * esz = ((off.den ρ).toNat + (e.den ρ).toNat) * esz := (Nat.add_mul _ _ _).symm
          simp only [Instr.indexAt, SV.den, r1, r3, Option.map_some, addr_add', addE_den, resI_den hρ hp, g5]
          simp only [asIntOf, Sem.run_bind, run_underlying hd, Result.andThen_ok, Sem.run_pure, Instr.sureAddr, g0, g4, and_self, if_true, run_sizeOf' hi', hsz, hz', addr_add', Nat.add_assoc, g6, Nat.add_zero]
        · trivial
      · trivial
    · trivial
  · rename_i ti n cn sz off len cap k e hti he hi
    rw [he] at hx ⊢
    rw [hi]
    obtain ⟨d, hd, hst, _⟩ := (hT.ty t ti hti).und
    split
    · rename_i el hu
      rw [hu] at hst
      simp only [StOk] at hst
      subst hst
      split
      · rename_i te hte
        obtain ⟨i', z, hi', hsz, _, _, _⟩ := (hT.ty _ te hte).info
        split
        · rename_i hz
          have hz' : te.size = sz := by simpa using hz
          refine needO_ok hρ hp (fun hd0 => needO_ok hρ hp (fun hd1 => needO_ok hρ hp (fun hd2 => ?_)))
          have g0 := le_t hd0
          have g1 := nle_t hd1
          have g2 := le_t hd2
          rw [lit_den] at g0 g2
          rw [resI_den hρ hp] at g2
          refine okSame H hn _ ?_ (fun m hm => hx m (by simp [SV.names] at hm ⊢; exact .inl hm))
          have g4 : e.den ρ < ((len.den ρ).toNat : Int) := by omega
          have g5 : ((off.den ρ + e.den ρ)).toNat = (off.den ρ).toNat + (e.den ρ).toNat := by omega
          have g6 : (off.den ρ).toNat * sz + (e.den ρ).toNat * sz = ((off.den ρ).toNat + (e.den ρ).toNat) * sz := (Nat.add_mul _ _ _).symm
          simp only [Instr.indexAt, SV.den, addE_den, resI_den hρ hp, g5]
          simp only [asIntOf, Sem.run_bind, run_underlying hd, Result.andThen_ok, Sem.run_pure, Instr.sureAddr, g0, g4, and_self, if_true, run_sizeOf' hi', hsz, hz', addr_add', g6, Nat.add_zero]
        · trivial
      · trivial
    · trivial
  · rename_i ti g off k e hti he hi
    rw [he] at hx ⊢
    rw [hi]
    obtain ⟨d, hd, hst, _⟩ := (hT.ty t ti hti).und
    split
    · rename_i len el hu
      rw [hu] at hst
      simp only [StOk] at hst
      subst hst
      split
      · rename_i te hte
        obtain ⟨i', z, hi', hsz, _, _, _⟩ := (hT.ty _ te hte).info
        split
        · rename_i j hj
          obtain ⟨h1, h2⟩ := idx_ok hρ hp e len _ _ j hj
          refine okSame H hn _ ?_ (fun m hm => by cases hm)
          simp [Instr.indexAt, asIntOf, SV.den, run_underlying hd, Instr.sureAddr, h1, h2, run_sizeOf' hi', hsz]
          unfold Addr.add; split <;> simp_all
        · trivial
        · trivial
      · trivial
    · trivial
  · trivial
theorem i_ok (hT : T.Ok P) (hρ : ρ.Ok) (hp : Holds ρ pc) (hr : RTyped T.orac.rom ρ) (H : HeapR ρ b0 h w) (hn : HNames nx h) (hsl : SlotsR ρ sl a.tmps) (hs : SNames nx sl) (t : TypeId) (x i : Operand) :
    ORok P ρ b0 h nx w (do pure (.value (← Instr.index t (a.eval x) (a.eval i)))) (opI T pc h nx sl t x i) := by
  have hx := ev_names hs x
  unfold opI symIndex
  rw [ev_den hsl x, ev_den hsl i]
  split
  · rename_i ti bs k e hti he hi
    rw [he, hi]
    obtain ⟨d, hd, hst, _⟩ := (hT.ty t ti hti).und
    split
    · rename_i hu
      rw [hu] at hst
      simp only [StOk] at hst
      subst hst
      split
      · rename_i j hj
        obtain ⟨h1, h2⟩ := idx_ok hρ hp e _ _ _ j hj
        split
        · rename_i b hb
          rw [nth_eq] at hb
          split
          · rename_i hin
            obtain ⟨c0, c1⟩ := inByte_ok hρ hp hin
            refine okSame H hn _ ?_ (fun m hm => by cases hm)
            have hget : (bytesOf (bs.map (IE.den ρ)))[j]? = some (UInt8.ofNat (b.den ρ).toNat) := by
              have hlt : j < (bytesOf (bs.map (IE.den ρ))).size := by rw [bytesOf_size]; simpa using h2
              rw [getElem?_pos (bytesOf (bs.map (IE.den ρ))) j hlt]
              congr 1
              have hq := List.getElem?_eq_some_iff.1 hb
              obtain ⟨hq1, hq2⟩ := hq
              show (bytesOf (bs.map (IE.den ρ))).data[j] = _
              simp [bytesOf, hq2]
            simp [Instr.index, asIntOf, SV.den, run_underlying hd, h1, hget]
            omega
          · trivial
        · trivial
      · trivial
      · trivial
    · trivial
  · rename_i ti l k e hti he hi
    rw [he, hi]
    obtain ⟨d, hd, hst, _⟩ := (hT.ty t ti hti).und
    split
    · rename_i hu
      rw [hu] at hst
      simp only [StOk] at hst
      subst hst
      split
      · rename_i htb
        have hty := typedB_ok hρ hp hr _ htb
        refine needO_ok hρ hp (fun hd0 => needO_ok hρ hp (fun hd1 => ?_))
        have g0 := le_t hd0
        have g1 := nle_t hd1
        rw [lit_den] at g0
        rw [lenE_den hρ hp] at g1
        have hlt : (e.den ρ).toNat < (l.den ρ).length := by omega
        have hget := List.getElem?_eq_getElem hlt
        have hcf := hty _ (List.mem_of_getElem? hget)
        split
        · rename_i v hel
          have hden := elemAt_den hρ hp l e _ _ hel g0 hget hcf
          have hnm := elemAt_names (pc := pc) _ _ _ hel
          obtain ⟨n, hn1, hn2, hn3⟩ := conf_byte_inv hcf
          rw [hn1] at hden
          simp only [SV.denL, List.cons.injEq, and_true] at hden
          refine okSame H hn v ?_ (fun m hm => by simp [SV.namesL] at hnm; rw [hnm] at hm; cases hm)
          have hb : (byteL (l.den ρ))[(e.den ρ).toNat]? = some (UInt8.ofNat n.toNat) := by
            have hlt2 : (e.den ρ).toNat < (byteL (l.den ρ)).size := by rw [byteL_size]; exact hlt
            rw [getElem?_pos (byteL (l.den ρ)) _ hlt2]
            congr 1
            show (byteL (l.den ρ)).data[(e.den ρ).toNat] = _
            simp [byteL, bytesOf, hn1, intV]
          have hbk := byte_back hn2 hn3
          simp [Instr.index, asIntOf, SV.den, run_underlying hd, g0, hb, hden]
          omega
        · trivial
        · trivial
        · trivial
      · trivial
    · trivial
  · rename_i ti cs k e hti he hi
    rw [he] at hx ⊢
    rw [hi]
    obtain ⟨d, hd, hst, _⟩ := (hT.ty t ti hti).und
    split
    · rename_i len el hu
      rw [hu] at hst
      simp only [StOk] at hst
      subst hst
      split
      · rename_i te hte
        obtain ⟨i', z, hi', hsz, _, _, _⟩ := (hT.ty _ te hte).info
        split
        · rename_i j hj
          obtain ⟨h1, h2⟩ := idx_ok hρ hp e len _ _ j hj
          rcases part_only (T := T) (h := h) (nx := nx) el cs (j * te.size) _ rfl with ⟨v, h', nx', hv⟩ | ⟨m, hm⟩
          · rw [hv]
            obtain ⟨p1, rfl, rfl, p2⟩ := part_run (P := P) (ρ := ρ) (w := w) hT el cs (j * te.size) v h' nx' hv
            refine okSame H hn v ?_ (fun m hm => hx m (by simp only [SV.names]; exact p2 m hm))
            simp [Instr.index, asIntOf, SV.den, run_underlying hd, h1, h2, run_sizeOf' hi', hsz, p1]
          · rw [hm]; trivial
        · trivial
        · trivial
      · trivial
    · trivial
  · trivial
end
end Go.Proofs.Ytjgkaimgocnkmab.Sx
