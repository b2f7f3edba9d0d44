/- A reckoner of Go's small steps over letters: the other operations. No condition. -/
import Derived.Test.YthenenacmiiphaaSp3
import Derived.Laws.MakeOwn
import Derived.Laws.IdiomStrings
import Derived.Laws.BytesString
set_option linter.unusedVariables false
set_option linter.unusedSimpArgs false
set_option linter.deprecated false
namespace Go.Proofs.Ythenenacmiiphaa.Sx
open Go
section
variable {P : Program} {T : Tab} {ρ : Rho} {b0 : World} {pc : List BE} {h : SHeap} {nx : Nat} {w : World} {sl : Slots} {a : Act} {S : Sem Next}

theorem atom_any (x : BE) : True := trivial
def BRok (P : Program) (ρ : Rho) (nx : Nat) (w : World) (S : Sem Value) : BR → Prop
 | .ok v => S.run P w = .ok (v.den ρ) w ∧ v.names = []
 | .split _ => True
 | .fail _ => True
theorem beq_dec (x y : Int) : (x == y) = decide (x = y) := by
 rw [Bool.eq_iff_iff]; simp
theorem intCmp_ok (op : BinOp) (k : IntKind) (xt : TypeId) (x y : Operand) (e f : IE) (c : BE) (hc : intCmp op e f = some c) :
  ((do eqGuard op xt x y (.int k (e.den ρ)) (.int k (f.den ρ)); binOp op xt (.int k (e.den ρ)) (.int k (f.den ρ))) : Sem Value).run P w = .ok (.bool (c.den ρ)) w := by
 cases op <;> simp [intCmp] at hc <;> subst hc <;>
  simp [eqGuard, binOp_eql, binOp_neq, binOp_lss, binOp_leq, binOp_gtr, binOp_geq, mkEq_den, mkNot_den, mkLe_den] <;>
  first
   | (rw [Bool.eq_iff_iff]; simp; done)
   | (rw [Bool.eq_iff_iff]; simp; omega)
   | skip
theorem intCmp_names (op : BinOp) (e f : IE) (c : BE) : (SV.bool c).names = [] := rfl
theorem symInt_ok (hρ : ρ.Ok) (hp : Holds ρ pc) (op : BinOp) (k : IntKind) (xt : TypeId) (x y : Operand) (e f : IE) (hs : isShift op = false) :
  BRok P ρ nx w ((do eqGuard op xt x y (.int k (e.den ρ)) (.int k (f.den ρ)); binOp op xt (.int k (e.den ρ)) (.int k (f.den ρ))) : Sem Value) (symInt pc op k e f) := by
 cases op <;> simp only [symInt] <;> try (simp [isShift] at hs; done)
 case add => exact ⟨by simp [eqGuard, binOp_add, Op.intArith, SV.den, mkAdd_den hρ hp], rfl⟩
 case sub => exact ⟨by simp [eqGuard, binOp_sub, Op.intArith, SV.den, mkSub_den hρ hp], rfl⟩
 case mul => exact ⟨by simp [eqGuard, binOp_mul, Op.intArith, SV.den, mkMul_den hρ hp], rfl⟩
 case and => exact ⟨by simp [eqGuard, binOp_and, Op.intBits, SV.den, mkBin_den, binI], rfl⟩
 case or => exact ⟨by simp [eqGuard, binOp_or, Op.intBits, SV.den, mkBin_den, binI], rfl⟩
 case xor => exact ⟨by simp [eqGuard, binOp_xor, Op.intBits, SV.den, mkBin_den, binI], rfl⟩
 case andNot => exact ⟨by simp [eqGuard, binOp_andNot, Op.intBits, SV.den, mkBin_den, binI], rfl⟩
 case quo =>
  split
  ·rename_i hd
   have := dec_den hρ hp _ _ hd
   rw [mkEq_den, decide_eq_false_iff_not] at this
   simp only [den_lit] at this
   exact ⟨by simp [eqGuard, binOp_quo, Op.intDiv, SV.den, mkBin_den, binI, this], rfl⟩
  ·trivial
  ·trivial
 case rem =>
  split
  ·rename_i hd
   have := dec_den hρ hp _ _ hd
   rw [mkEq_den, decide_eq_false_iff_not] at this
   simp only [den_lit] at this
   exact ⟨by simp [eqGuard, binOp_rem, Op.intDiv, SV.den, mkBin_den, binI, this], rfl⟩
  ·trivial
  ·trivial
 all_goals
  simp only [intCmp]
  exact ⟨intCmp_ok _ k xt x y e f _ rfl, rfl⟩
theorem inByte_ok (hρ : ρ.Ok) (hp : Holds ρ pc) {e : IE} (h : inByte pc e = true) : 0 ≤ e.den ρ ∧ e.den ρ ≤ 255 := by
 have hr := rng_in hρ hp e
 unfold inByte at h
 split at h
 ·rename_i a b hab
  rw [hab] at hr
  split at h
  ·rename_i h1
   rw [ileb_iff] at h1 h
   have := hr.1 a rfl
   have := hr.2 b rfl
   omega
  ·cases h
 ·cases h
theorem allByte_ok (hρ : ρ.Ok) (hp : Holds ρ pc) : ∀ (l : List IE), allByte pc l = true → ∀ e ∈ l, 0 ≤ e.den ρ ∧ e.den ρ ≤ 255
 | [], _, e, he => by simp at he
 | x :: l, h, e, he => by
  simp only [allByte] at h
  split at h
  ·rename_i h1
   rcases List.mem_cons.1 he with rfl | he
   ·exact inByte_ok hρ hp h1
   ·exact allByte_ok hρ hp l h e he
  ·cases h
theorem bytesOf_toList (l : List Int) : (bytesOf l).toList = l.map fun n => UInt8.ofNat n.toNat := by
 rw [ByteArray.toList_eq]; simp [bytesOf]
theorem bytesOf_size (l : List Int) : (bytesOf l).size = l.length := by simp [bytesOf, ByteArray.size]
theorem bytesOf_append (l m : List Int) : bytesOf l ++ bytesOf m = bytesOf (l ++ m) := by
 apply ByteArray.ext
 rw [ByteArray.data_append]
 apply Array.ext'
 simp [bytesOf]
theorem eqBytes_den : ∀ (xs ys : List IE), xs.length = ys.length → (∀ e ∈ xs, 0 ≤ e.den ρ ∧ e.den ρ ≤ 255) → (∀ e ∈ ys, 0 ≤ e.den ρ ∧ e.den ρ ≤ 255) →
  (eqBytes xs ys).den ρ = ((xs.map (IE.den ρ)).map (fun n => UInt8.ofNat n.toNat) == (ys.map (IE.den ρ)).map (fun n => UInt8.ofNat n.toNat))
 | [], [], _, _, _ => by simp [eqBytes, BE.den]
 | a :: l, [], h, _, _ => by simp at h
 | [], b :: m, h, _, _ => by simp at h
 | a :: l, b :: m, h, hx, hy => by
  have ih := eqBytes_den l m (by simpa using h) (fun e he => hx e (List.mem_cons_of_mem _ he)) (fun e he => hy e (List.mem_cons_of_mem _ he))
  obtain ⟨a0, a1⟩ := hx a (List.mem_cons_self ..)
  obtain ⟨b0, b1⟩ := hy b (List.mem_cons_self ..)
  have key : (if a.beq b then BE.lit true else mkEq a b).den ρ = (UInt8.ofNat (a.den ρ).toNat == UInt8.ofNat (b.den ρ).toNat) := by
   have e1 : (UInt8.ofNat (a.den ρ).toNat == UInt8.ofNat (b.den ρ).toNat) = decide (a.den ρ = b.den ρ) := by
    rw [Bool.eq_iff_iff, decide_eq_true_iff, beq_iff_eq]
    constructor
    ·intro he
     rw [← byte_back a0 a1, ← byte_back b0 b1, he]
    ·intro he; rw [he]
   rw [e1]
   split
   ·rename_i hb; rw [IE.beq_eq _ _ hb]; simp [BE.den]
   ·exact mkEq_den _ _
  simp only [eqBytes, mkAnd_den, key, ih, List.map_cons]
  rfl
theorem lessBytes_den : ∀ (xs ys : List IE) (b : Bool), lessBytes xs ys = some b → (∀ e ∈ xs, 0 ≤ e.den ρ ∧ e.den ρ ≤ 255) → (∀ e ∈ ys, 0 ≤ e.den ρ ∧ e.den ρ ≤ 255) →
  Op.bytesLess ((xs.map (IE.den ρ)).map (fun n => UInt8.ofNat n.toNat)) ((ys.map (IE.den ρ)).map (fun n => UInt8.ofNat n.toNat)) = b
 | xs, [], b, h, _, _ => by simp [lessBytes] at h; subst h; cases xs <;> simp [Op.bytesLess]
 | [], y :: ys, b, h, _, _ => by simp [lessBytes] at h; subst h; simp [Op.bytesLess]
 | x :: xs, y :: ys, b, h, hx, hy => by
  cases x <;> cases y <;> simp only [lessBytes] at h <;> try (cases h; done)
  rename_i m n
  obtain ⟨a0, a1⟩ := hx _ (List.mem_cons_self ..)
  obtain ⟨c0, c1⟩ := hy _ (List.mem_cons_self ..)
  simp only [IE.den] at a0 a1 c0 c1
  have hlt : (UInt8.ofNat m.toNat < UInt8.ofNat n.toNat) ↔ m < n := by
   rw [UInt8.lt_iff_toNat_lt]
   have h1 := byte_back a0 a1
   have h2 := byte_back c0 c1
   omega
  have heq : (UInt8.ofNat m.toNat = UInt8.ofNat n.toNat) ↔ m = n := by
   constructor
   ·intro he; rw [← byte_back a0 a1, ← byte_back c0 c1, he]
   ·intro he; rw [he]
  simp only [List.map_cons, IE.den, Op.bytesLess]
  split at h
  ·rename_i h1
   rw [ileb_iff] at h1
   have n1 : ¬ m < n := by omega
   split at h
   ·rename_i h2
    rw [ileb_iff] at h2
    have e1 : m = n := by omega
    have ih := lessBytes_den xs ys b h (fun e he => hx e (List.mem_cons_of_mem _ he)) (fun e he => hy e (List.mem_cons_of_mem _ he))
    simp only [hlt, n1, decide_false, Bool.false_or, beq_iff_eq, heq, e1]
    simpa [e1] using ih
   ·rename_i h2
    rw [ileb_iff] at h2
    cases h
    have e1 : ¬ m = n := by omega
    have e2 : (UInt8.ofNat m.toNat == UInt8.ofNat n.toNat) = false := by rw [beq_eq_false_iff_ne]; exact fun he => e1 (heq.1 he)
    simp [hlt, n1, e2]
  ·rename_i h1
   rw [ileb_iff] at h1
   cases h
   have n1 : m < n := by omega
   simp [hlt, n1]
theorem symStr_ok (hρ : ρ.Ok) (hp : Holds ρ pc) (op : BinOp) (xt : TypeId) (x y : Operand) (xs ys : List IE) :
  BRok P ρ nx w ((do eqGuard op xt x y ((SV.str xs).den ρ) ((SV.str ys).den ρ); binOp op xt ((SV.str xs).den ρ) ((SV.str ys).den ρ)) : Sem Value) (symStr pc op xs ys) := by
 have hg : ∀ op : BinOp, (eqGuard op xt x y ((SV.str xs).den ρ) ((SV.str ys).den ρ)).run P w = .ok () w := by
  intro op; simp [eqGuard, SV.den]
 unfold symStr
 split
 ·split
  ·rename_i hle
   have hle' : xs.length + ys.length ≤ 1000000 := Nat.le_of_ble_eq_true hle
   refine ⟨?_, rfl⟩
   rw [Sem.run_bind, hg, Result.andThen_ok]
   have h63 : ¬ ((((bytesOf (xs.map (IE.den ρ))).size + (bytesOf (ys.map (IE.den ρ))).size : Nat) : Int) > IntKind.i64.max) := by
    rw [bytesOf_size, bytesOf_size]; simp [IntKind.max, IntKind.signed, IntKind.bits]; omega
   simp only [SV.den, binOp, Op.stringOp]
   rw [if_neg h63, bytesOf_append, List.map_append]; rfl
  ·trivial
 ·split
  ·rename_i hx
   split
   ·rename_i hy
    have bx := allByte_ok hρ hp _ hx
    have by' := allByte_ok hρ hp _ hy
    have heq : ((if Nat.beq xs.length ys.length then eqBytes xs ys else .lit false : BE)).den ρ = ((bytesOf (xs.map (IE.den ρ))).toList == (bytesOf (ys.map (IE.den ρ))).toList) := by
     rw [bytesOf_toList, bytesOf_toList]
     split
     ·rename_i hl
      exact eqBytes_den xs ys (by simpa using hl) bx by'
     ·rename_i hl
      symm
      simp only [BE.den]
      rw [beq_eq_false_iff_ne]
      intro he
      have := congrArg List.length he
      simp at this
      simp [this] at hl
    have hls : ∀ b, lessBytes xs ys = some b → Op.bytesLess (bytesOf (xs.map (IE.den ρ))).toList (bytesOf (ys.map (IE.den ρ))).toList = b := by
     intro b hb
     rw [bytesOf_toList, bytesOf_toList]
     exact lessBytes_den xs ys b hb bx by'
    split
    ·refine ⟨?_, rfl⟩
     rw [Sem.run_bind, hg, Result.andThen_ok]
     simp only [SV.den, binOp, Op.stringOp, heq]; rfl
    ·refine ⟨?_, rfl⟩
     rw [Sem.run_bind, hg, Result.andThen_ok]
     simp only [SV.den, binOp, Op.stringOp, mkNot_den, heq]; rfl
    ·split
     ·rename_i b hb
      refine ⟨?_, rfl⟩
      rw [Sem.run_bind, hg, Result.andThen_ok]
      simp only [SV.den, binOp, Op.stringOp, hls b hb]; rfl
     ·trivial
    ·split
     ·rename_i b hb
      refine ⟨?_, rfl⟩
      rw [Sem.run_bind, hg, Result.andThen_ok]
      simp only [SV.den, binOp, Op.stringOp, hls b hb]; rfl
     ·trivial
    ·trivial
   ·trivial
  ·trivial
abbrev RTyped (roms : List (Nat × (Nat × List CK))) (ρ : Rho) : Prop := ∀ r esz ks, lk roms r = some (esz, ks) → Typed ks (ρ.z.rl r)
theorem byteL_size (l : LV) : (byteL l).size = l.length := by
 unfold byteL; rw [bytesOf_size]; simp
theorem byteL_append (a b : LV) : byteL a ++ byteL b = byteL (a ++ b) := by
 unfold byteL; rw [bytesOf_append]; simp
theorem byteL_eq {a b : LV} (ha : Typed byteK a) (hb : Typed byteK b) : ((byteL a).toList == (byteL b).toList) = eqV a b := by
 unfold eqV
 by_cases h : a = b
 ·subst h; simp
 ·have : (byteL a).toList ≠ (byteL b).toList := by
   intro he
   apply h
   rw [← strV_byteL ha, ← strV_byteL hb]
   have : byteL a = byteL b := by
    have e1 : ∀ s : ByteArray, s.toList = s.data.toList := by
     intro s
     obtain ⟨d⟩ := s
     have hid : (d.toList.map fun u => (u.toNat : Int)).map (fun n => UInt8.ofNat n.toNat) = d.toList := by
      rw [List.map_map]
      conv => rhs; rw [← List.map_id d.toList]
      apply List.map_congr_left
      intro u _
      simp
     have := bytesOf_toList (d.toList.map fun u => (u.toNat : Int))
     have e2 : bytesOf (d.toList.map fun u => (u.toNat : Int)) = ⟨d⟩ := by unfold bytesOf; rw [hid]
     rw [e2, hid] at this
     exact this
    rw [e1, e1] at he
    exact ByteArray.ext (Array.ext' he)
   rw [this]
  simp [h, this]
theorem asL_ok (hρ : ρ.Ok) (hp : Holds ρ pc) {roms : List (Nat × (Nat × List CK))} (hr : RTyped roms ρ) {x : SV} {l : LE} (h : asL roms pc x = some l) : x.den ρ = .string (byteL (l.den ρ)) ∧ Typed byteK (l.den ρ) := by
 unfold asL at h
 split at h
 ·split at h
  ·rename_i ht
   cases h
   exact ⟨by simp only [SV.den], typedB_ok hρ hp hr _ ht⟩
  ·cases h
 ·split at h
  ·rename_i ht
   cases h
   exact ⟨by simp only [SV.den, strL_byteL], allK_ok hρ hp _ ht⟩
  ·cases h
 ·cases h
theorem eqLs_den (hρ : ρ.Ok) (hp : Holds ρ pc) (l m : LE) : (eqLs pc l m).den ρ = eqV (l.den ρ) (m.den ρ) := by
 have e0 : ∀ x : LV, eqV [] x = decide (((x.length : Int)) = 0) := by
  intro x
  unfold eqV
  cases x with
  | nil => simp
  | cons a x => simp; omega
 have e1 : ∀ x : LV, eqV x [] = decide (((x.length : Int)) = 0) := by
  intro x
  unfold eqV
  cases x with
  | nil => simp
  | cons a x => simp; omega
 unfold eqLs
 split
 ·rw [mkEq_den, lenE_den hρ hp]; simp only [LE.den, IE.den]; exact (e0 _).symm
 ·rw [mkEq_den, lenE_den hρ hp]; simp only [LE.den, IE.den]; exact (e1 _).symm
 ·rw [mkLeq_den]
theorem symLstr_ok (hρ : ρ.Ok) (hp : Holds ρ pc) {T : Tab} (hr : RTyped T.orac.rom ρ) (op : BinOp) (xt : TypeId) (x y : Operand) (u v : SV) :
  BRok P ρ nx w ((do eqGuard op xt x y (u.den ρ) (v.den ρ); binOp op xt (u.den ρ) (v.den ρ)) : Sem Value) (symLstr T pc op u v) := by
 unfold symLstr
 split
 ·rename_i l m hl hm
  obtain ⟨a1, a2⟩ := asL_ok hρ hp hr hl
  obtain ⟨b1, b2⟩ := asL_ok hρ hp hr hm
  have hg : ∀ op : BinOp, (eqGuard op xt x y (.string (byteL (l.den ρ))) (.string (byteL (m.den ρ)))).run P w = .ok () w := by
   intro op; simp [eqGuard]
  rw [a1, b1]
  split
  ·refine ⟨?_, rfl⟩
   rw [Sem.run_bind, hg, Result.andThen_ok]
   simp only [SV.den, binOp, Op.stringOp, byteL_eq a2 b2, eqLs_den hρ hp]; rfl
  ·refine ⟨?_, rfl⟩
   rw [Sem.run_bind, hg, Result.andThen_ok]
   simp only [SV.den, binOp, Op.stringOp, byteL_eq a2 b2, mkNot_den, eqLs_den hρ hp]; rfl
  ·split
   ·rename_i hd
    have hle := dec_le hρ hp hd
    rw [addE_den, lenE_den hρ hp, lenE_den hρ hp] at hle
    simp only [IE.den] at hle
    refine ⟨?_, rfl⟩
    rw [Sem.run_bind, hg, Result.andThen_ok]
    have h63 : ¬ ((((byteL (l.den ρ)).size + (byteL (m.den ρ)).size : Nat) : Int) > IntKind.i64.max) := by
     rw [byteL_size, byteL_size]; simp [IntKind.max, IntKind.signed, IntKind.bits]; omega
    simp only [SV.den, binOp, Op.stringOp]
    rw [if_neg h63, byteL_append, catE_den]; rfl
   ·trivial
  ·trivial
 ·trivial
theorem rnilE_den {T : Tab} {pc : List BE} (hρ : ρ.Ok) (hp : Holds ρ pc) (hrom : RomOk T.orac b0 ρ) (r : Nat) : (rnilE T pc r).den ρ = (ρ.z.ra r).isNone := by
 unfold rnilE
 split
 ·rename_i q hq
  split
  ·rename_i hd
   have h1 := dec_den hρ hp _ _ hd
   simp only [BE.den, IE.den, LE.den, lenV] at h1
   have h1 := of_decide_eq_true h1
   obtain ⟨_, _, _, r2, _⟩ := hrom.2 r q.1 q.2 hq
   rw [(r2 (by omega)).1]
   simp [BE.den]
  ·simp [BE.den]
 ·simp [BE.den]
theorem symRnil_ok {T : Tab} {pc : List BE} (hT : T.Ok P) (hρ : ρ.Ok) (hp : Holds ρ pc) (hrom : RomOk T.orac b0 ρ) (op : BinOp) (xt : TypeId) (x y : Operand) (r : Nat) (off len : IE) (cap : Option IE) :
  BRok P ρ nx w ((do eqGuard op xt x y ((SV.rom r off len cap).den ρ) ((SV.const (.slice none 0 0)).den ρ); binOp op xt ((SV.rom r off len cap).den ρ) ((SV.const (.slice none 0 0)).den ρ)) : Sem Value) (symRnil T pc op xt r) := by
 unfold symRnil
 split
 ·rename_i ti hti
  obtain ⟨d, hd, hst, _⟩ := (hT.ty xt ti hti).und
  have he : ∀ D : Nat, (∃ e, d = .slice e) → (Op.equalIn (D + 1) xt ((SV.rom r off len cap).den ρ) (.slice none 0 0)).run P w = .ok (ρ.z.ra r).isNone w := by
   intro D hs
   obtain ⟨e, rfl⟩ := hs
   cases hra : ρ.z.ra r <;> simp [Op.equalIn, run_underlying hd, SV.den, hra]
  split
  ·rename_i e hu
   rw [hu] at hst
   simp only [StOk] at hst
   refine ⟨?_, rfl⟩
   have := he 9999 ⟨_, hst⟩
   have h2 : (Op.equal xt ((SV.rom r off len cap).den ρ) (.slice none 0 0)).run P w = .ok (ρ.z.ra r).isNone w := this
   rw [Sem.run_bind]
   have hg : (eqGuard .eql xt x y ((SV.rom r off len cap).den ρ) ((SV.const (.slice none 0 0)).den ρ)).run P w = .ok () w := by simp [eqGuard, SV.den]
   rw [hg, Result.andThen_ok]
   have h3 : binOp .eql xt ((SV.rom r off len cap).den ρ) ((SV.const (.slice none 0 0)).den ρ) = (do pure (.bool (← Op.equal xt ((SV.rom r off len cap).den ρ) (.slice none 0 0)))) := rfl
   rw [h3, Sem.run_bind, h2]; simp only [SV.den, rnilE_den hρ hp hrom]; rfl
  ·rename_i e hu
   rw [hu] at hst
   simp only [StOk] at hst
   refine ⟨?_, rfl⟩
   have := he 9999 ⟨_, hst⟩
   have h2 : (Op.equal xt ((SV.rom r off len cap).den ρ) (.slice none 0 0)).run P w = .ok (ρ.z.ra r).isNone w := this
   rw [Sem.run_bind]
   have hg : (eqGuard .neq xt x y ((SV.rom r off len cap).den ρ) ((SV.const (.slice none 0 0)).den ρ)).run P w = .ok () w := by simp [eqGuard, SV.den]
   rw [hg, Result.andThen_ok]
   have h3 : binOp .neq xt ((SV.rom r off len cap).den ρ) ((SV.const (.slice none 0 0)).den ρ) = (do pure (.bool (!(← Op.equal xt ((SV.rom r off len cap).den ρ) (.slice none 0 0))))) := rfl
   rw [h3, Sem.run_bind, h2]; simp only [SV.den, mkNot_den, rnilE_den hρ hp hrom]; rfl
  ·trivial
 ·trivial
theorem equal_nil {t : TypeId} {d : TypeDesc} (hd : P.underlying t = some d) {s : ST} (hst : StOk s d) {u v : SV} {b : Bool} (h : eqNil s u v = some b) : (Op.equal t (u.den ρ) (v.den ρ)).run P w = .ok b w := by
 have key : ∀ D, (Op.equalIn (D + 1) t (u.den ρ) (v.den ρ)).run P w = .ok b w := ?_
 ·exact key 9999
 intro D
 unfold eqNil at h
 split at h <;> first
  | (cases h; done)
  | (simp only [Option.some.injEq] at h; subst h; simp only [StOk] at hst; first
    | (subst hst; simp [Op.equalIn, run_underlying hd, SV.den]; done)
    | (obtain ⟨_, rfl⟩ := hst; simp [Op.equalIn, run_underlying hd, SV.den]; done)
    | (obtain ⟨_, _, _, rfl⟩ := hst; simp [Op.equalIn, run_underlying hd, SV.den]; done))
theorem eqNil_shape {s : ST} {u v : SV} {b : Bool} (h : eqNil s u v = some b) (op : BinOp) (xt : TypeId) (x y : Operand) : (eqGuard op xt x y (u.den ρ) (v.den ρ)).run P w = .ok () w ∧ binOp .eql xt (u.den ρ) (v.den ρ) = (do pure (.bool (← Op.equal xt (u.den ρ) (v.den ρ)))) ∧ binOp .neq xt (u.den ρ) (v.den ρ) = (do pure (.bool (!(← Op.equal xt (u.den ρ) (v.den ρ))))) := by
 unfold eqNil at h
 split at h <;> first
  | (cases h; done)
  | (refine ⟨?_, rfl, rfl⟩; cases op <;> simp [eqGuard, SV.den])
theorem symNil_ok (hT : T.Ok P) (op : BinOp) (xt : TypeId) (x y : Operand) (u v : SV) :
  BRok P ρ nx w ((do eqGuard op xt x y (u.den ρ) (v.den ρ); binOp op xt (u.den ρ) (v.den ρ)) : Sem Value) (symNil T op xt u v) := by
 unfold symNil
 split
 ·rename_i ti hti
  obtain ⟨d, hd, hst, _⟩ := (hT.ty xt ti hti).und
  split
  ·rename_i b hb
   have he := equal_nil (P := P) (ρ := ρ) (w := w) hd hst hb
   obtain ⟨h1, h2, h3⟩ := eqNil_shape (P := P) (ρ := ρ) (w := w) hb op xt x y
   split
   ·refine ⟨?_, rfl⟩
    rw [Sem.run_bind, h1, Result.andThen_ok, h2, Sem.run_bind, he]; rfl
   ·refine ⟨?_, rfl⟩
    rw [Sem.run_bind, h1, Result.andThen_ok, h3, Sem.run_bind, he]; rfl
   ·trivial
  ·trivial
 ·trivial
theorem symBin_ok (hT : T.Ok P) (hρ : ρ.Ok) (hp : Holds ρ pc) (hrom : RomOk T.orac b0 ρ) (op : BinOp) (xt : TypeId) (x y : Operand) (u v : SV) :
  BRok P ρ nx w ((do eqGuard op xt x y (u.den ρ) (v.den ρ); binOp op xt (u.den ρ) (v.den ρ)) : Sem Value) (symBin T pc op xt u v) := by
 unfold symBin
 split
 ·rename_i k e j f
  split
  ·rename_i hs
   split
   ·rename_i hd
    have := dec_den hρ hp _ _ hd
    rw [mkLe_den, decide_eq_true_iff] at this
    simp only [den_lit] at this
    have h0 : ¬ f.den ρ < 0 := by omega
    cases op <;> simp [isShift] at hs
    ·exact ⟨by simp [eqGuard, SV.den, binOp_shl, Op.shift, h0, mkBin_den, binI], rfl⟩
    ·exact ⟨by simp [eqGuard, SV.den, binOp_shr, Op.shift, h0, mkBin_den, binI], rfl⟩
   ·trivial
   ·trivial
  ·rename_i hs
   split
   ·rename_i hk
    have := (keq_iff _ _).1 hk
    subst this
    exact symInt_ok hρ hp op k xt x y e f (by simpa using hs)
   ·trivial
 ·rename_i b c
  split
  ·rename_i ti hti
   obtain ⟨d, hd, hst, _⟩ := (hT.ty xt ti hti).und
   split
   ·rename_i hu
    rw [hu] at hst
    simp only [StOk] at hst
    subst hst
    exact ⟨by simp [SV.den, eqGuard, binOp, run_equal_bool w xt _ _ hd, mkIff_den], rfl⟩
   ·rename_i hu
    rw [hu] at hst
    simp only [StOk] at hst
    subst hst
    exact ⟨by simp [SV.den, eqGuard, binOp, run_equal_bool w xt _ _ hd, mkIff_den, mkNot_den], rfl⟩
   ·trivial
  ·trivial
 ·rename_i xs ys
  split
  ·rename_i ks hks
   split
   ·rename_i c hc
    obtain ⟨h1, h2⟩ := hT.eqs xt ks hks ρ xs ys c w x y hc
    split
    ·exact ⟨by simpa [SV.den] using h1, rfl⟩
    ·exact ⟨by simpa [SV.den, mkNot_den] using h2, rfl⟩
    ·trivial
   ·trivial
  ·trivial
 ·exact symStr_ok hρ hp op xt x y _ _
 ·exact symLstr_ok hρ hp hrom.typed op xt x y _ _
 ·exact symLstr_ok hρ hp hrom.typed op xt x y _ _
 ·exact symRnil_ok hT hρ hp hrom op xt x y _ _ _ _
 ·exact symNil_ok hT op xt x y _ _
theorem equal_nn {t : TypeId} {d : TypeDesc} (hd : P.underlying t = some d) (hst : StOk .iface d) : (Op.equal t .nilIface .nilIface).run P w = .ok true w := by
 have key : ∀ D, (Op.equalIn (D + 1) t .nilIface .nilIface).run P w = .ok true w := ?_
 ·exact key 9999
 intro D
 simp only [StOk] at hst
 obtain ⟨_, rfl⟩ := hst
 simp [Op.equalIn, run_underlying hd]
theorem nilTwo_ok (hT : T.Ok P) {op : BinOp} {xt : TypeId} {x y : Operand} {u : SV} {b : Bool} (h : nilTwo T op xt y u = some b) : u.den ρ = .nilIface ∧ y = .const .nilIface ∧ ((do eqGuard op xt x y .nilIface .nilIface; binOp op xt .nilIface .nilIface) : Sem Value).run P w = .ok (.bool b) w := by
 unfold nilTwo at h
 split at h
 ·split at h
  ·split at h
   ·rename_i ti hti
    obtain ⟨d, hd, hst, _⟩ := (hT.ty xt ti hti).und
    split at h
    ·rename_i hu
     rw [hu] at hst
     have e := equal_nn (P := P) (w := w) hd hst
     refine ⟨rfl, rfl, ?_⟩
     split at h
     ·cases h
      have h1 : (eqGuard .eql xt x (.const .nilIface) .nilIface .nilIface).run P w = .ok () w := by simp [eqGuard]
      have h2 : binOp .eql xt .nilIface .nilIface = (do pure (.bool (← Op.equal xt .nilIface .nilIface))) := rfl
      rw [Sem.run_bind, h1, Result.andThen_ok, h2, Sem.run_bind, e]; rfl
     ·cases h
      have h1 : (eqGuard .neq xt x (.const .nilIface) .nilIface .nilIface).run P w = .ok () w := by simp [eqGuard]
      have h2 : binOp .neq xt .nilIface .nilIface = (do pure (.bool (!(← Op.equal xt .nilIface .nilIface)))) := rfl
      rw [Sem.run_bind, h1, Result.andThen_ok, h2, Sem.run_bind, e]; rfl
     ·cases h
    ·cases h
   ·cases h
  ·cases h
 ·cases h
theorem bin_ok (hT : T.Ok P) (hρ : ρ.Ok) (hp : Holds ρ pc) (hrom : RomOk T.orac b0 ρ) (H : HeapR ρ b0 h w) (hn : HNames nx h) (hsl : SlotsR ρ sl a.tmps) (hs : SNames nx sl) (op : BinOp) (xt : TypeId) (x y : Operand) :
  ORok P ρ b0 h nx w (do pure (.value (← (do eqGuard op xt x y (a.eval x) (a.eval y); binOp op xt (a.eval x) (a.eval y))))) (opBin T pc h nx sl op xt x y) := by
 have hb := symBin_ok (P := P) (nx := nx) (w := w) hT hρ hp hrom op xt x y (ev sl x) (ev sl y)
 unfold opBin
 split
 ·rename_i b hnt
  obtain ⟨e1, e2, e3⟩ := nilTwo_ok (P := P) (ρ := ρ) (w := w) (x := x) hT hnt
  have ey : a.eval y = .nilIface := by rw [e2]; rfl
  have ex : a.eval x = .nilIface := by rw [ev_den hsl x, e1]
  rw [ex, ey]
  refine okSame H hn (.bool (.lit b)) ?_ (fun m hm => by cases hm)
  rw [Sem.run_bind, e3]; rfl
 rw [ev_den hsl x, ev_den hsl y]
 split
 ·rename_i v hv
  rw [hv] at hb
  rw [fSV_eq]
  obtain ⟨h1, h2⟩ := hb
  refine okSame H hn v ?_ (fun m hm => by rw [h2] at hm; cases hm)
  rw [Sem.run_bind, h1]; rfl
 ·trivial
 ·trivial
theorem un_ok (hρ : ρ.Ok) (hp : Holds ρ pc) (H : HeapR ρ b0 h w) (hn : HNames nx h) (hsl : SlotsR ρ sl a.tmps) (op : UnOp) (x : Operand) :
  ORok P ρ b0 h nx w (do pure (.value (← Op.unary op (a.eval x)))) (opUn pc h nx sl op x) := by
 unfold opUn
 rw [ev_den hsl x]
 split
 ·rename_i v hv
  rw [fSV_eq]
  unfold symUn at hv
  split at hv
  ·rename_i b hb
   cases hv
   rw [hb]
   exact okSame H hn _ (by simp [SV.den, Op.unary, mkNot_den]) (fun m hm => by cases hm)
  ·rename_i k e he
   cases hv
   rw [he]
   exact okSame H hn _ (by simp [SV.den, Op.unary, Op.intArith, mkSub_den hρ hp, den_lit]) (fun m hm => by cases hm)
  ·rename_i k e he
   cases hv
   rw [he]
   exact okSame H hn _ (by simp [SV.den, Op.unary, Op.intBits, mkBin_den, den_lit, binI]) (fun m hm => by cases hm)
  ·cases hv
 ·trivial
theorem convI_ok (hT : T.Ok P) (hρ : ρ.Ok) (hp : Holds ρ pc) (H : HeapR ρ b0 h w) (hn : HNames nx h) (hsl : SlotsR ρ sl a.tmps) (src dst : TypeId) (x : Operand) :
  ORok P ρ b0 h nx w (do pure (.value (← convert src dst (a.eval x)))) (opConvI T pc h nx sl src dst x) := by
 unfold opConvI
 rw [ev_den hsl x]
 split
 ·rename_i v hv
  rw [fSV_eq]
  unfold symConv at hv
  split at hv
  ·rename_i ts td k e h1 h2 h3
   split at hv
   ·rename_i k' hk
    cases hv
    obtain ⟨d1, e1, _, _⟩ := (hT.ty src ts h1).und
    obtain ⟨d2, e2, s2, _⟩ := (hT.ty dst td h2).und
    rw [hk] at s2
    simp only [StOk] at s2
    subst s2
    rw [h3]
    exact okSame H hn _ (by simp [SV.den, convert, run_underlying e1, run_underlying e2, Conv.intToInt, mkConv_den hρ hp]) (fun m hm => by cases hm)
   ·cases hv
  ·cases hv
 ·trivial
theorem field_at {F : Array Field} {fs : List (Nat × TypeId)} (hF : F.toList.map (fun f => (f.offset, f.type)) = fs) {i : Nat} {p : Nat × TypeId} (hp : nth fs i = some p) :
  ∃ f, F[i]? = some f ∧ f.offset = p.1 ∧ f.type = p.2 := by
 rw [nth_eq, ← hF] at hp
 simp at hp
 obtain ⟨f, h1, h2⟩ := hp
 exact ⟨f, h1, by rw [← h2], by rw [← h2]⟩
theorem fa_ok (hT : T.Ok P) (H : HeapR ρ b0 h w) (hn : HNames nx h) (hsl : SlotsR ρ sl a.tmps) (hs : SNames nx sl) (s : TypeId) (x : Operand) (i : Nat) :
  ORok P ρ b0 h nx w (do pure (.value (← Instr.fieldAt s (a.eval x) i))) (opFA T h nx sl s x i) := by
 have hx := ev_names hs x
 unfold opFA symFieldAddr
 rw [ev_den hsl x]
 split
 ·rename_i ti n off hti he
  rw [he] at hx ⊢
  obtain ⟨d, hd, hst, _⟩ := (hT.ty s ti hti).und
  split
  ·rename_i fs hfs
   rw [hfs] at hst
   obtain ⟨F, rfl, hF⟩ := hst
   split
   ·rename_i p hp
    obtain ⟨f, hf, ho, ht⟩ := field_at hF hp
    split
    ·rename_i tf htf
     obtain ⟨i', z, hi, hsz, _, _, _⟩ := (hT.ty _ tf htf).info
     split
     ·trivial
     ·rename_i h0
      refine okSame H hn _ ?_ hx
      have h0' : ¬ i'.size = 0 := by rw [hsz]; simpa using h0
      simp [Instr.fieldAt, run_underlying hd, hf, SV.den, Instr.sureAddr, fieldPlace, ht, run_sizeOf' hi, h0', ho]
      unfold Addr.add; split <;> simp_all
    ·trivial
   ·trivial
  ·trivial
 ·rename_i ti r e c hti he
  rw [he] at hx ⊢
  obtain ⟨d, hd, hst, _⟩ := (hT.ty s ti hti).und
  split
  ·rename_i fs hfs
   rw [hfs] at hst
   obtain ⟨F, rfl, hF⟩ := hst
   split
   ·rename_i p hp
    obtain ⟨f, hf, ho, ht⟩ := field_at hF hp
    split
    ·rename_i tf htf
     obtain ⟨i', z, hi, hsz, _, _, _⟩ := (hT.ty _ tf htf).info
     split
     ·trivial
     ·rename_i h0
      refine okSame H hn _ ?_ (fun m hm => by cases hm)
      have h0' : ¬ i'.size = 0 := by rw [hsz]; simpa using h0
      simp [Instr.fieldAt, run_underlying hd, hf, SV.den, Instr.sureAddr, fieldPlace, ht, run_sizeOf' hi, h0', ho]
      unfold Addr.add; split <;> simp_all [Nat.add_assoc]
    ·trivial
   ·trivial
  ·trivial
 ·rename_i ti n zz e c hti he
  rw [he] at hx ⊢
  obtain ⟨d, hd, hst, _⟩ := (hT.ty s ti hti).und
  split
  ·rename_i fs hfs
   rw [hfs] at hst
   obtain ⟨F, rfl, hF⟩ := hst
   split
   ·rename_i p hp
    obtain ⟨f, hf, ho, ht⟩ := field_at hF hp
    split
    ·rename_i tf htf
     obtain ⟨i', z, hi, hsz, _, _, _⟩ := (hT.ty _ tf htf).info
     split
     ·trivial
     ·rename_i h0
      refine okSame H hn _ ?_ (fun m hm => hx m (by simpa [SV.names] using hm))
      have h0' : ¬ i'.size = 0 := by rw [hsz]; simpa using h0
      simp [Instr.fieldAt, run_underlying hd, hf, SV.den, Instr.sureAddr, fieldPlace, ht, run_sizeOf' hi, h0', ho]
      unfold Addr.add; split <;> simp_all [Nat.add_assoc]
    ·trivial
   ·trivial
  ·trivial
 ·trivial
theorem part_run (hT : T.Ok P) (t : TypeId) (cs : List SV) (off : Nat) (v : SV) (h' : SHeap) (nx' : Nat) (hv : symPart T h nx t cs off = .val v h' nx') :
  (part t (SV.denL ρ cs).toArray off).run P w = .ok (v.den ρ) w ∧ h' = h ∧ nx' = nx ∧ ∀ m ∈ v.names, m ∈ SV.namesL cs := by
 unfold symPart at hv
 split at hv
 ·rename_i ti hti
  obtain ⟨d, hd, _, hag⟩ := (hT.ty t ti hti).und
  obtain ⟨i, z, hi, hsz, _, _⟩ := (hT.ty t ti hti).info
  split at hv
  ·rename_i ha
   cases hv
   have hr : d.isRow = true := by rw [← hag]; exact ha
   refine ⟨?_, rfl, rfl, ?_⟩
   ·simp [part, run_isAgg hd, hr, run_sizeOf' hi, hsz, SV.den, denL_take, denL_drop]
   ·intro m hm
    simp only [SV.names] at hm
    obtain ⟨v, hv, h2⟩ := mem_namesL.1 hm
    exact mem_namesL.2 ⟨v, List.mem_of_mem_drop (List.mem_of_mem_take hv), h2⟩
  ·rename_i ha
   have hr : d.isRow = false := by rw [← hag]; simpa using ha
   split at hv
   ·rename_i v' hv'
    cases hv
    rw [nth_eq] at hv'
    exact ⟨by simp [part, run_isAgg hd, hr, denL_get, hv'], rfl, rfl, fun m hm => mem_namesL.2 ⟨v, List.mem_of_getElem? hv', hm⟩⟩
   ·cases hv
 ·cases hv
theorem part_only (t : TypeId) (cs : List SV) (off : Nat) : ∀ r, symPart T h nx t cs off = r → (∃ v h' nx', r = .val v h' nx') ∨ ∃ n, r = .fail n := by
 intro r hr
 unfold symPart at hr
 (repeat' split at hr) <;> subst hr <;> first | exact .inl ⟨_, _, _, rfl⟩ | exact .inr ⟨_, rfl⟩
theorem f_ok (hT : T.Ok P) (H : HeapR ρ b0 h w) (hn : HNames nx h) (hsl : SlotsR ρ sl a.tmps) (hs : SNames nx sl) (s : TypeId) (x : Operand) (i : Nat) :
  ORok P ρ b0 h nx w (do pure (.value (← Instr.field s (a.eval x) i))) (opF T h nx sl s x i) := by
 have hx := ev_names hs x
 unfold opF symField
 rw [ev_den hsl x]
 split
 ·rename_i ti cs hti he
  rw [he] at hx ⊢
  obtain ⟨d, hd, hst, _⟩ := (hT.ty s ti hti).und
  split
  ·rename_i fs hfs
   rw [hfs] at hst
   obtain ⟨F, rfl, hF⟩ := hst
   split
   ·rename_i p hp
    obtain ⟨f, hf, ho, ht⟩ := field_at hF hp
    rcases part_only (T := T) (h := h) (nx := nx) p.2 cs p.1 _ rfl with ⟨v, h', nx', hv⟩ | ⟨m, hm⟩
    ·rw [hv]
     obtain ⟨h1, rfl, rfl, h2⟩ := part_run (P := P) (ρ := ρ) (w := w) hT p.2 cs p.1 v h' nx' hv
     refine okSame H hn v ?_ (fun m hm => hx m (by simp only [SV.names]; exact h2 m hm))
     simp [Instr.field, run_underlying hd, hf, SV.den, asAgg, ht, ho, h1]
    ·rw [hm]; trivial
   ·trivial
  ·trivial
 ·trivial
theorem place_ok (hρ : ρ.Ok) (hp : Holds ρ pc) (e : IE) : ∀ (n j : Nat) (v : SV) (h' : SHeap) (i : Nat), place pc e n j = .val v h' i → e.den ρ = (i : Int) ∧ j ≤ i ∧ i < j + n := by
  intro n
  induction n with
  | zero => intro j v h' i h; simp [place] at h
  | succ n ih =>
    intro j v h' i h
    simp only [place] at h
    split at h
    · rename_i hd
      split at h
      · rename_i hd2
        cases h
        have h1 := dec_den hρ hp _ _ hd
        have h2 := dec_den hρ hp _ _ hd2
        rw [mkLe_den, decide_eq_true_iff, den_lit] at h1 h2
        exact ⟨by omega, by omega, by omega⟩
      · cases h
      · cases h
    · cases h
    · obtain ⟨h1, h2, h3⟩ := ih _ _ _ _ h
      exact ⟨h1, by omega, by omega⟩
theorem idx_ok (hρ : ρ.Ok) (hp : Holds ρ pc) (e : IE) (len : Nat) (v : SV) (h' : SHeap) (i : Nat) (hi : idx pc e len = .val v h' i) : e.den ρ = (i : Int) ∧ i < len := by
 unfold idx at hi
 split at hi
 ·split at hi
  ·rename_i j hj
   cases hi
   exact ⟨rfl, by simpa using hj⟩
  ·cases hi
 ·cases hi
 ·split at hi
  ·obtain ⟨h1, _, h3⟩ := place_ok hρ hp _ _ _ _ _ _ hi
   exact ⟨h1, by omega⟩
  ·cases hi
theorem addr_add' (b o n : Nat) : (⟨b, o, none⟩ : Addr).add n = ⟨b, o + n, none⟩ := by
 unfold Addr.add; split <;> simp_all
theorem ia_ok (hT : T.Ok P) (hρ : ρ.Ok) (hp : Holds ρ pc) (hrom : RomOk T.orac b0 ρ) (H : HeapR ρ b0 h w) (hn : HNames nx h) (hsl : SlotsR ρ sl a.tmps) (hs : SNames nx sl) (t : TypeId) (x i : Operand) :
  ORok P ρ b0 h nx w (do pure (.value (← Instr.indexAt t (a.eval x) (a.eval i)))) (opIA T pc h nx sl t x i) := by
 have hx := ev_names hs x
 unfold opIA symIndexAddr
 rw [ev_den hsl x, ev_den hsl i]
 split
 ·rename_i ti n off k e hti he hi
  rw [he] at hx ⊢
  rw [hi]
  obtain ⟨d, hd, hst, _⟩ := (hT.ty t ti hti).und
  split
  ·rename_i len el hu
   rw [hu] at hst
   simp only [StOk] at hst
   subst hst
   split
   ·rename_i te hte
    obtain ⟨i', z, hi', hsz, _, _, _⟩ := (hT.ty _ te hte).info
    split
    ·rename_i j hj
     obtain ⟨h1, h2⟩ := idx_ok hρ hp e len _ _ j hj
     refine okSame H hn _ ?_ hx
     simp [Instr.indexAt, asIntOf, SV.den, run_underlying hd, Instr.sureAddr, h1, h2, run_sizeOf' hi', hsz]
     unfold Addr.add; split <;> simp_all
    ·trivial
    ·trivial
   ·trivial
  ·trivial
 ·rename_i ti n off len cap k e hti he hi
  rw [he] at hx ⊢
  rw [hi]
  obtain ⟨d, hd, hst, _⟩ := (hT.ty t ti hti).und
  split
  ·rename_i el hu
   rw [hu] at hst
   simp only [StOk] at hst
   subst hst
   split
   ·rename_i te hte
    obtain ⟨i', z, hi', hsz, _, _, _⟩ := (hT.ty _ te hte).info
    split
    ·rename_i j hj
     obtain ⟨h1, h2⟩ := idx_ok hρ hp e len _ _ j hj
     refine okSame H hn _ ?_ hx
     simp [Instr.indexAt, asIntOf, SV.den, run_underlying hd, Instr.sureAddr, h1, h2, run_sizeOf' hi', hsz]
     unfold Addr.add; split <;> simp_all
    ·trivial
    ·trivial
   ·trivial
  ·trivial
 ·rename_i ti n cn sz off len k e hti he hi
  rw [he] at hx ⊢
  rw [hi]
  obtain ⟨d, hd, hst, _⟩ := (hT.ty t ti hti).und
  split
  ·rename_i el hu
   rw [hu] at hst
   simp only [StOk] at hst
   subst hst
   split
   ·rename_i te hte
    obtain ⟨i', z, hi', hsz, _, _, _⟩ := (hT.ty _ te hte).info
    split
    ·rename_i j hj
     obtain ⟨h1, h2⟩ := idx_ok hρ hp e len _ _ j hj
     split
     ·rename_i hz
      have hz' : te.size = sz := by simpa using hz
      refine okSame H hn _ ?_ (fun m hm => hx m (by simp [SV.names] at hm ⊢; exact .inl hm))
      simp [Instr.indexAt, asIntOf, SV.den, run_underlying hd, Instr.sureAddr, h1, h2, run_sizeOf' hi', hsz, hz']
      unfold Addr.add; split <;> simp_all
     ·trivial
    ·trivial
    ·trivial
   ·trivial
  ·trivial
 ·rename_i ti r off len cap k e hti he hi
  rw [he] at hx ⊢
  rw [hi]
  obtain ⟨d, hd, hst, _⟩ := (hT.ty t ti hti).und
  split
  ·rename_i el hu
   rw [hu] at hst
   simp only [StOk] at hst
   subst hst
   split
   ·rename_i te esz cl hte hr
    obtain ⟨i', z, hi', hsz, _, _, _⟩ := (hT.ty _ te hte).info
    obtain ⟨r0, r1, _, r2, _⟩ := hrom.2 r esz cl hr
    split
    ·rename_i hz
     have hz' : te.size = esz := by simpa using hz
     refine needO_ok hρ hp (fun hd0 => needO_ok hρ hp (fun hd1 => needO_ok hρ hp (fun hd2 => needO_ok hρ hp (fun hd3 => ?_))))
     have g0 := le_t hd0
     have g1 := nle_t hd1
     have g2 := le_t hd2
     have g3 := nle_t hd3
     rw [lit_den] at g0 g2
     rw [resI_den hρ hp] at g2
     rw [addE_den, resI_den hρ hp] at g3
     simp only [IE.den, LE.den, lenV] at g3
     obtain ⟨r3, _⟩ := r2 (by omega)
     refine okSame H hn _ ?_ (fun m hm => by cases hm)
     have g4 : e.den ρ < ((len.den ρ).toNat : Int) := by omega
     have g5 : ((off.den ρ + e.den ρ)).toNat = (off.den ρ).toNat + (e.den ρ).toNat := by omega
     have g6 : (off.den ρ).toNat * esz + (e.den ρ).toNat * esz = ((off.den ρ).toNat + (e.den ρ).toNat) * esz := (Nat.add_mul _ _ _).symm
     simp only [Instr.indexAt, SV.den, r1, r3, Option.map_some, addr_add', addE_den, resI_den hρ hp, g5]
     simp only [asIntOf, Sem.run_bind, run_underlying hd, Result.andThen_ok, Sem.run_pure, Instr.sureAddr, g0, g4, and_self, if_true, run_sizeOf' hi', hsz, hz', addr_add', Nat.add_assoc, g6, Nat.add_zero]
    ·trivial
   ·trivial
  ·trivial
 ·rename_i ti n cn sz off len cap k e hti he hi
  rw [he] at hx ⊢
  rw [hi]
  obtain ⟨d, hd, hst, _⟩ := (hT.ty t ti hti).und
  split
  ·rename_i el hu
   rw [hu] at hst
   simp only [StOk] at hst
   subst hst
   split
   ·rename_i te hte
    obtain ⟨i', z, hi', hsz, _, _, _⟩ := (hT.ty _ te hte).info
    split
    ·rename_i hz
     have hz' : te.size = sz := by simpa using hz
     refine needO_ok hρ hp (fun hd0 => needO_ok hρ hp (fun hd1 => needO_ok hρ hp (fun hd2 => ?_)))
     have g0 := le_t hd0
     have g1 := nle_t hd1
     have g2 := le_t hd2
     rw [lit_den] at g0 g2
     rw [resI_den hρ hp] at g2
     refine okSame H hn _ ?_ (fun m hm => hx m (by simp [SV.names] at hm ⊢; exact .inl hm))
     have g4 : e.den ρ < ((len.den ρ).toNat : Int) := by omega
     have g5 : ((off.den ρ + e.den ρ)).toNat = (off.den ρ).toNat + (e.den ρ).toNat := by omega
     have g6 : (off.den ρ).toNat * sz + (e.den ρ).toNat * sz = ((off.den ρ).toNat + (e.den ρ).toNat) * sz := (Nat.add_mul _ _ _).symm
     simp only [Instr.indexAt, SV.den, addE_den, resI_den hρ hp, g5]
     simp only [asIntOf, Sem.run_bind, run_underlying hd, Result.andThen_ok, Sem.run_pure, Instr.sureAddr, g0, g4, and_self, if_true, run_sizeOf' hi', hsz, hz', addr_add', g6, Nat.add_zero]
    ·trivial
   ·trivial
  ·trivial
 ·rename_i ti g off k e hti he hi
  rw [he] at hx ⊢
  rw [hi]
  obtain ⟨d, hd, hst, _⟩ := (hT.ty t ti hti).und
  split
  ·rename_i len el hu
   rw [hu] at hst
   simp only [StOk] at hst
   subst hst
   split
   ·rename_i te hte
    obtain ⟨i', z, hi', hsz, _, _, _⟩ := (hT.ty _ te hte).info
    split
    ·rename_i j hj
     obtain ⟨h1, h2⟩ := idx_ok hρ hp e len _ _ j hj
     refine okSame H hn _ ?_ (fun m hm => by cases hm)
     simp [Instr.indexAt, asIntOf, SV.den, run_underlying hd, Instr.sureAddr, h1, h2, run_sizeOf' hi', hsz]
     unfold Addr.add; split <;> simp_all
    ·trivial
    ·trivial
   ·trivial
  ·trivial
 ·trivial
theorem i_ok (hT : T.Ok P) (hρ : ρ.Ok) (hp : Holds ρ pc) (hr : RTyped T.orac.rom ρ) (H : HeapR ρ b0 h w) (hn : HNames nx h) (hsl : SlotsR ρ sl a.tmps) (hs : SNames nx sl) (t : TypeId) (x i : Operand) :
  ORok P ρ b0 h nx w (do pure (.value (← Instr.index t (a.eval x) (a.eval i)))) (opI T pc h nx sl t x i) := by
 have hx := ev_names hs x
 unfold opI symIndex
 rw [ev_den hsl x, ev_den hsl i]
 split
 ·rename_i ti bs k e hti he hi
  rw [he, hi]
  obtain ⟨d, hd, hst, _⟩ := (hT.ty t ti hti).und
  split
  ·rename_i hu
   rw [hu] at hst
   simp only [StOk] at hst
   subst hst
   split
   ·rename_i j hj
    obtain ⟨h1, h2⟩ := idx_ok hρ hp e _ _ _ j hj
    split
    ·rename_i b hb
     rw [nth_eq] at hb
     split
     ·rename_i hin
      obtain ⟨c0, c1⟩ := inByte_ok hρ hp hin
      refine okSame H hn _ ?_ (fun m hm => by cases hm)
      have hget : (bytesOf (bs.map (IE.den ρ)))[j]? = some (UInt8.ofNat (b.den ρ).toNat) := by
       have hlt : j < (bytesOf (bs.map (IE.den ρ))).size := by rw [bytesOf_size]; simpa using h2
       rw [getElem?_pos (bytesOf (bs.map (IE.den ρ))) j hlt]
       congr 1
       have hq := List.getElem?_eq_some_iff.1 hb
       obtain ⟨hq1, hq2⟩ := hq
       show (bytesOf (bs.map (IE.den ρ))).data[j] = _
       simp [bytesOf, hq2]
      simp [Instr.index, asIntOf, SV.den, run_underlying hd, h1, hget]
      omega
     ·trivial
    ·trivial
   ·trivial
   ·trivial
  ·trivial
 ·rename_i ti l k e hti he hi
  rw [he, hi]
  obtain ⟨d, hd, hst, _⟩ := (hT.ty t ti hti).und
  split
  ·rename_i hu
   rw [hu] at hst
   simp only [StOk] at hst
   subst hst
   split
   ·rename_i htb
    have hty := typedB_ok hρ hp hr _ htb
    refine needO_ok hρ hp (fun hd0 => needO_ok hρ hp (fun hd1 => ?_))
    have g0 := le_t hd0
    have g1 := nle_t hd1
    rw [lit_den] at g0
    rw [lenE_den hρ hp] at g1
    have hlt : (e.den ρ).toNat < (l.den ρ).length := by omega
    have hget := List.getElem?_eq_getElem hlt
    have hcf := hty _ (List.mem_of_getElem? hget)
    split
    ·rename_i v hel
     have hden := elemAt_den hρ hp l e _ _ hel g0 hget hcf
     have hnm := elemAt_names (pc := pc) _ _ _ hel
     obtain ⟨n, hn1, hn2, hn3⟩ := conf_byte_inv hcf
     rw [hn1] at hden
     simp only [SV.denL, List.cons.injEq, and_true] at hden
     refine okSame H hn v ?_ (fun m hm => by simp [SV.namesL] at hnm; rw [hnm] at hm; cases hm)
     have hb : (byteL (l.den ρ))[(e.den ρ).toNat]? = some (UInt8.ofNat n.toNat) := by
      have hlt2 : (e.den ρ).toNat < (byteL (l.den ρ)).size := by rw [byteL_size]; exact hlt
      rw [getElem?_pos (byteL (l.den ρ)) _ hlt2]
      congr 1
      show (byteL (l.den ρ)).data[(e.den ρ).toNat] = _
      simp [byteL, bytesOf, hn1, intV]
     have hbk := byte_back hn2 hn3
     simp [Instr.index, asIntOf, SV.den, run_underlying hd, g0, hb, hden]
     omega
    ·trivial
    ·trivial
    ·trivial
   ·trivial
  ·trivial
 ·rename_i ti cs k e hti he hi
  rw [he] at hx ⊢
  rw [hi]
  obtain ⟨d, hd, hst, _⟩ := (hT.ty t ti hti).und
  split
  ·rename_i len el hu
   rw [hu] at hst
   simp only [StOk] at hst
   subst hst
   split
   ·rename_i te hte
    obtain ⟨i', z, hi', hsz, _, _, _⟩ := (hT.ty _ te hte).info
    split
    ·rename_i j hj
     obtain ⟨h1, h2⟩ := idx_ok hρ hp e len _ _ j hj
     rcases part_only (T := T) (h := h) (nx := nx) el cs (j * te.size) _ rfl with ⟨v, h', nx', hv⟩ | ⟨m, hm⟩
     ·rw [hv]
      obtain ⟨p1, rfl, rfl, p2⟩ := part_run (P := P) (ρ := ρ) (w := w) hT el cs (j * te.size) v h' nx' hv
      refine okSame H hn v ?_ (fun m hm => hx m (by simp only [SV.names]; exact p2 m hm))
      simp [Instr.index, asIntOf, SV.den, run_underlying hd, h1, h2, run_sizeOf' hi', hsz, p1]
     ·rw [hm]; trivial
    ·trivial
    ·trivial
   ·trivial
  ·trivial
 ·trivial
end
end Go.Proofs.Ythenenacmiiphaa.Sx
namespace Go.Proofs.Ythenenacmiiphaa.Sx
open Go
section
variable {P : Program} {T : Tab} {ρ : Rho} {b0 : World} {pc : List BE} {h : SHeap} {nx : Nat} {w : World} {sl : Slots} {a : Act} {S : Sem Next}
theorem drewN_heap (H : HeapR ρ b0 h w) : HeapR ρ b0 h { w with drawn := w.drawn + 1 } :=
 ⟨⟨⟨H.g0.os, H.g0.tape, H.g0.output, H.g0.size, H.g0.block⟩, fun h => Nat.le_succ_of_le (H.g0.dr h)⟩, H.at_, H.own, H.inj⟩
theorem beq_no {m l : Nat} (h : ¬ m = l) : Nat.beq m l = false := by
 cases hb : Nat.beq m l with
 | false => rfl
 | true => exact absurd (Nat.eq_of_beq_eq_true hb) h
theorem litN_ok (v : SV) (n : Nat) (h : litN v = some n) : ∃ k, ∀ ρ, v.den ρ = .int k (n : Int) := by
 unfold litN at h
 split at h
 ·cases h; exact ⟨_, fun ρ => rfl⟩
 ·cases h
theorem bound_ok (k : IntKind) (n y : Nat) (c : BoundsCode) (h : n ≤ y) : (Instr.sliceBound (.int k (n : Int)) y c).run P w = .ok n w := by
 have : (n : Int) ≤ (y : Int) := by omega
 simp [Instr.sliceBound, asIntOf, this]
theorem three_ok (hsl : SlotsR ρ sl a.tmps) {len cap C l u m : Nat} {lo hi mx : Option Operand} (isS : Bool) (h : three sl len cap lo hi mx = some (l, u, m)) (hC : mx = none → C = cap) (hle : cap ≤ C) :
  (Instr.sliceBounds isS len C (lo.map a.eval) (hi.map a.eval) (mx.map a.eval)).run P w = .ok (l, u, m) w ∧ l ≤ u ∧ u ≤ m ∧ m ≤ cap := by
 unfold three at h
 split at h
 ·rename_i m' u' l' hm hu hl
  split at h
  ·rename_i h1
   split at h
   ·rename_i h2
    split at h
    ·rename_i h3
     have h1' := Nat.le_of_ble_eq_true h1
     have h2' := Nat.le_of_ble_eq_true h2
     have h3' := Nat.le_of_ble_eq_true h3
     have fin : ∀ {x y z : Nat}, some (x, y, z) = some (l, u, m) → x = l ∧ y = u ∧ z = m := by intro x y z e; cases e; exact ⟨rfl, rfl, rfl⟩
     have ev : ∀ (x : Operand) (n : Nat), litN (ev sl x) = some n → ∃ k, a.eval x = .int k (n : Int) := by
      intro x n hx
      obtain ⟨k, hk⟩ := litN_ok _ _ hx
      exact ⟨k, by rw [ev_den hsl, hk]⟩
     cases mx with
     | none =>
      simp only [litOr, Option.some.injEq] at hm
      subst hm
      obtain ⟨e1, e2, e3⟩ := fin h
      subst e1; subst e2; subst e3
      have hC' := hC rfl
      subst hC'
      refine ⟨?_, h3', h2', h1'⟩
      cases hi with
      | none =>
       simp only [litOr, Option.some.injEq] at hu
       subst hu
       cases lo with
       | none =>
        simp only [litOr, Option.some.injEq] at hl
        subst hl
        simp [Instr.sliceBounds]
       | some x =>
        obtain ⟨k, hk⟩ := ev x _ hl
        simp [Instr.sliceBounds, hk, bound_ok k _ _ _ h3']
      | some y =>
       obtain ⟨j, hj⟩ := ev y _ hu
       cases lo with
       | none =>
        simp only [litOr, Option.some.injEq] at hl
        subst hl
        simp [Instr.sliceBounds, hj, bound_ok j _ _ _ h2']
       | some x =>
        obtain ⟨k, hk⟩ := ev x _ hl
        simp [Instr.sliceBounds, hk, hj, bound_ok k _ _ _ h3', bound_ok j _ _ _ h2']
     | some z =>
      cases hi with
      | none => cases h
      | some y =>
       obtain ⟨e1, e2, e3⟩ := fin h
       subst e1; subst e2; subst e3
       obtain ⟨i, hi'⟩ := ev z _ hm
       obtain ⟨j, hj⟩ := ev y _ hu
       refine ⟨?_, h3', h2', h1'⟩
       have h1'' := Nat.le_trans h1' hle
       cases lo with
       | none =>
        simp only [litOr, Option.some.injEq] at hl
        subst hl
        simp [Instr.sliceBounds, hi', hj, bound_ok i _ _ _ h1'', bound_ok j _ _ _ h2']
       | some x =>
        obtain ⟨k, hk⟩ := ev x _ hl
        simp [Instr.sliceBounds, hk, hi', hj, bound_ok i _ _ _ h1'', bound_ok k _ _ _ h3', bound_ok j _ _ _ h2']
    ·cases h
   ·cases h
  ·cases h
 ·cases h
theorem addr_add (b o n : Nat) : (⟨b, o, none⟩ : Addr).add n = ⟨b, o + n, none⟩ := by
 unfold Addr.add; split <;> simp_all
theorem slice_ok (hT : T.Ok P) (H : HeapR ρ b0 h w) (hn : HNames nx h) (hsl : SlotsR ρ sl a.tmps) (hs : SNames nx sl) (t : TypeId) (x : Operand) (lo hi mx : Option Operand) :
  ORok P ρ b0 h nx w (do pure (.value (← Instr.sliceAt t (a.eval x) (lo.map a.eval) (hi.map a.eval) (mx.map a.eval)))) (opSlice T h nx sl t x lo hi mx) := by
 have hx := ev_names hs x
 unfold opSlice
 rw [ev_den hsl x]
 split
 ·rename_i ti hti
  obtain ⟨d, hd, hst, _⟩ := (hT.ty t ti hti).und
  split
  ·-- strings
   rename_i bs hu he
   rw [hu] at hst
   simp only [StOk] at hst
   subst hst
   rw [he]
   split
   ·split
    ·rename_i l u m h3
     obtain ⟨r1, r2, r3, r4⟩ := three_ok (P := P) (w := w) hsl false h3 (fun _ => rfl) (Nat.le_refl _)
     refine okSame H hn _ ?_ (fun m hm => by cases hm)
     simp only [Option.map_none] at r1 ⊢
     have hsz : (bytesOf (bs.map (IE.den ρ))).size = bs.length := by rw [bytesOf_size]; simp
     have hex : (bytesOf (bs.map (IE.den ρ))).extract l u = bytesOf (((bs.take u).drop l).map (IE.den ρ)) := by
      apply ByteArray.ext
      rw [ByteArray.data_extract]
      apply Array.ext'
      simp [bytesOf, List.map_drop, List.map_take, List.drop_take]
     simp [Instr.sliceAt, Instr.slice, run_underlying hd, SV.den, hsz, r1, hex]
    ·trivial
   ·trivial
  ·rename_i e n off len cap hu he
   rw [hu] at hst
   simp only [StOk] at hst
   subst hst
   rw [he] at hx ⊢
   split
   ·rename_i te hte
    obtain ⟨i', z, hi', hsz, _, _, _⟩ := (hT.ty _ te hte).info
    unfold sliceOf
    split
    ·rename_i l u m h3
     obtain ⟨r1, r2, r3, r4⟩ := three_ok (P := P) (w := w) hsl true h3 (fun _ => rfl) (Nat.le_refl _)
     refine okSame H hn _ ?_ (fun m hm => hx m (by simpa [SV.names] using hm))
     by_cases hml : m = l
     ·subst hml
      simp [Instr.sliceAt, Instr.slice, run_underlying hd, SV.den, r1, run_sizeOf' hi']
     ·have hml' : Nat.beq m l = false := beq_no hml
      simp [Instr.sliceAt, Instr.slice, run_underlying hd, SV.den, r1, run_sizeOf' hi', hml, hml', addr_add, hsz]
    ·trivial
   ·trivial
  ·rename_i len e n off hu he
   rw [hu] at hst
   simp only [StOk] at hst
   subst hst
   rw [he] at hx ⊢
   split
   ·rename_i te hte
    obtain ⟨i', z, hi', hsz, _, _, _⟩ := (hT.ty _ te hte).info
    unfold sliceOf
    split
    ·rename_i l u m h3
     obtain ⟨r1, r2, r3, r4⟩ := three_ok (P := P) (w := w) hsl false h3 (fun _ => rfl) (Nat.le_refl _)
     refine okSame H hn _ ?_ (fun m hm => hx m (by simpa [SV.names] using hm))
     by_cases hml : m = l
     ·subst hml
      simp [Instr.sliceAt, run_underlying hd, SV.den, r1, run_sizeOf' hi', Instr.sureAddr]
     ·have hml' : Nat.beq m l = false := beq_no hml
      simp [Instr.sliceAt, run_underlying hd, SV.den, r1, run_sizeOf' hi', hml, hml', addr_add, hsz, Instr.sureAddr]
    ·trivial
   ·trivial
  ·rename_i e hu he
   rw [hu] at hst
   simp only [StOk] at hst
   subst hst
   rw [he]
   split
   ·rename_i te p hte h3
    obtain ⟨l, u, m⟩ := p
    obtain ⟨r1, r2, r3, r4⟩ := three_ok (P := P) (w := w) hsl true h3 (fun _ => rfl) (Nat.le_refl _)
    have e1 : l = 0 := by omega
    have e2 : u = 0 := by omega
    have e3 : m = 0 := by omega
    subst e1; subst e2; subst e3
    obtain ⟨i', z, hi', hsz, _, _, _⟩ := (hT.ty _ te hte).info
    refine okSame H hn _ ?_ (fun m hm => by cases hm)
    simp [Instr.sliceAt, Instr.slice, run_underlying hd, SV.den, r1, run_sizeOf' hi']
   ·trivial
  ·rename_i e n cn sz off len hu he
   rw [hu] at hst
   simp only [StOk] at hst
   subst hst
   rw [he] at hx ⊢
   split
   ·rename_i te cs rt dn zs hte hlk
    obtain ⟨i', z, hi', hsz, _, _, _⟩ := (hT.ty _ te hte).info
    split
    ·rename_i q1
     split
     ·rename_i q2
      split
      ·rename_i q3
       have q1' : te.size = sz := by simpa using q1
       have q2' : zs = sz := by simpa using q2
       have q3' : dn = cn := by simpa using q3
       subst q2'
       subst q3'
       obtain ⟨obj, ho, hR⟩ := H.at_ n _ hlk
       obtain ⟨rest, flo, fhi, _, _, hcap, _, hpos⟩ := hR
       have incap : ∀ q, (off + q) * zs ≤ cs.length → q ≤ ρ.a dn - off := by
        intro q hq
        have : (off + q) * zs ≤ ρ.a dn * zs := by omega
        have := Nat.le_of_mul_le_mul_right this hpos
        omega
       split
       ·-- two bounds
        split
        ·rename_i u l hu' hl'
         split
         ·rename_i h1
          have h1' := Nat.le_of_ble_eq_true h1
          split
          ·rename_i h2
           have h2' := Nat.le_of_ble_eq_true h2
           have hb := incap u h2'
           have h3 : three sl len (ρ.a dn - off) lo hi none = some (l, u, ρ.a dn - off) ∨ True := .inr trivial
           have r1 : (Instr.sliceBounds true len (ρ.a dn - off) (lo.map a.eval) (hi.map a.eval) none).run P w = .ok (l, u, ρ.a dn - off) w := by
            have h4 : three sl len (ρ.a dn - off) lo hi none = some (l, u, ρ.a dn - off) := by
             have b1 : Nat.ble (ρ.a dn - off) (ρ.a dn - off) = true := Nat.ble_eq_true_of_le (Nat.le_refl _)
             have b2 : Nat.ble u (ρ.a dn - off) = true := Nat.ble_eq_true_of_le hb
             have b0 : litOr (ρ.a dn - off) sl none = some (ρ.a dn - off) := rfl
             unfold three
             simp only [b0, hu', hl', b1, b2, h1, if_true]
            exact (three_ok (P := P) (w := w) hsl true h4 (fun _ => rfl) (Nat.le_refl _)).1
           simp only [Option.map_none]
           split
           ·rename_i h5
            have h5' : l = 0 := by simpa using h5
            subst h5'
            refine okSame H hn _ ?_ (fun m hm => hx m (by simpa [SV.names] using hm))
            have e0 : (⟨ρ.a n, off * zs, none⟩ : Addr).add 0 = ⟨ρ.a n, off * zs, none⟩ := by simp [Addr.add]
            simp [Instr.sliceAt, Instr.slice, run_underlying hd, SV.den, r1, run_sizeOf' hi', e0]
           ·split
            ·trivial
            ·rename_i h5 h6
             have h5' : ¬ l = 0 := by simpa using h5
             have h6' : ¬ u = l := by simpa using h6
             have hml : ¬ (ρ.a dn - off = l) := by omega
             refine okSame H hn _ ?_ (fun m hm => hx m (by simpa [SV.names] using hm))
             simp [Instr.sliceAt, Instr.slice, run_underlying hd, SV.den, r1, run_sizeOf' hi', hml, addr_add, hsz, q1', Nat.add_mul, Nat.sub_sub]
          ·trivial
         ·trivial
        ·trivial
       ·-- three
        rename_i y
        split
        ·rename_i m hm
         split
         ·rename_i h2
          have h2' := Nat.le_of_ble_eq_true h2
          have hb := incap m h2'
          unfold sliceOf
          split
          ·rename_i l u m' h3
           obtain ⟨r1, r2, r3, r4⟩ := three_ok (P := P) (w := w) (C := ρ.a dn - off) hsl true h3 (fun hh => by cases hh) hb
           refine okSame H hn _ ?_ (fun m hm => hx m (by simp [SV.names] at hm ⊢; exact .inl hm))
           by_cases hml : m' = l
           ·subst hml
            simp only [Option.map_some] at r1 ⊢
            simp [Instr.sliceAt, Instr.slice, run_underlying hd, SV.den, r1, run_sizeOf' hi']
           ·have hml' : Nat.beq m' l = false := beq_no hml
            simp only [Option.map_some] at r1 ⊢
            simp [Instr.sliceAt, Instr.slice, run_underlying hd, SV.den, r1, run_sizeOf' hi', hml, hml', addr_add, hsz, q1']
          ·trivial
         ·trivial
        ·trivial
      ·trivial
     ·trivial
    ·trivial
   ·trivial
  ·trivial
 ·trivial
end
end Go.Proofs.Ythenenacmiiphaa.Sx
namespace Go.Proofs.Ythenenacmiiphaa.Sx
open Go
section
variable {P : Program} {T : Tab} {ρ : Rho} {b0 : World} {pc : List BE} {h : SHeap} {nx : Nat} {w : World} {sl : Slots} {a : Act} {S : Sem Next}
theorem rep_get (z : List Value) : ∀ (len i : Nat), ((List.replicate len z).flatten)[i]? = if i < len * z.length then z[i % z.length]? else none := by
  intro len
  induction len with
  | zero => intro i; simp
  | succ len ih =>
    intro i
    rw [List.replicate_succ, List.flatten_cons, List.getElem?_append]
    have e : (len + 1) * z.length = len * z.length + z.length := by rw [Nat.add_mul, Nat.one_mul]
    by_cases h : i < z.length
    · rw [if_pos h, if_pos (by omega), Nat.mod_eq_of_lt h]
    · rw [if_neg h, ih]
      have hm : i % z.length = (i - z.length) % z.length := Nat.mod_eq_sub_mod (by omega)
      rw [hm]
      by_cases h2 : i - z.length < len * z.length
      · rw [if_pos h2, if_pos (by omega)]
      · rw [if_neg h2, if_neg (by omega)]
theorem reps_get (z : List Value) (len : Nat) : (Array.range (len * z.length)).map (fun i => (z.toArray)[i % z.toArray.size]!) = ((List.replicate len z).flatten).toArray := by
 apply Array.ext_getElem?
 intro i
 rw [show ((List.replicate len z).flatten).toArray[i]? = ((List.replicate len z).flatten)[i]? by simp, rep_get]
 by_cases hi : i < len * z.length
 ·have hn : 0 < z.length := by
   rcases Nat.eq_zero_or_pos z.length with h | h
   ·rw [h] at hi; simp at hi
   ·exact h
  have hm : i % z.length < z.length := Nat.mod_lt _ hn
  simp only [Array.getElem?_map, hi, if_true, List.size_toArray]
  rw [Array.getElem?_eq_getElem (by simpa using hi)]
  simp only [Option.map_some, Array.getElem_range]
  rw [getElem!_pos _ _ (by simpa using hm), List.getElem?_eq_getElem hm]
  simp
 ·rw [if_neg hi, Array.getElem?_eq_none (by simpa using Nat.le_of_not_lt hi)]
theorem reps_den (ρ : Rho) (z : List SV) : ∀ n, SV.denL ρ (reps z n) = (List.replicate n (SV.denL ρ z)).flatten := by
  intro n
  induction n with
  | zero => simp [reps, SV.denL]
  | succ n ih => simp [reps, denL_append, ih, List.replicate_succ]
theorem reps_names (z : List SV) : ∀ n, ∀ m ∈ SV.namesL (reps z n), m ∈ SV.namesL z := by
  intro n
  induction n with
  | zero => simp [reps, SV.namesL]
  | succ n ih =>
    intro m hm
    simp only [reps, namesL_eq, List.flatMap_append, List.mem_append] at hm ih ⊢
    rcases hm with hm | hm
    · exact hm
    · exact ih m hm
theorem makeSlice_ok (hT : T.Ok P) (H : HeapR ρ b0 h w) (hn : HNames nx h) (hsl : SlotsR ρ sl a.tmps) (t : TypeId) (x y : Operand) :
  ORok P ρ b0 h nx w (do pure (.value (← Instr.makeSlice t (a.eval x) (a.eval y)))) (opMakeSlice T h nx sl t x y) := by
 unfold opMakeSlice
 rw [ev_den hsl x, ev_den hsl y]
 split
 ·rename_i ti hti
  obtain ⟨d, hd, hst, _⟩ := (hT.ty t ti hti).und
  split
  ·rename_i e hu
   rw [hu] at hst
   simp only [StOk] at hst
   subst hst
   split
   ·rename_i te l c hte hl hc
    obtain ⟨i', z, hi', hsz, hz, hzc, hby⟩ := (hT.ty _ te hte).info
    have hzl := (hT.ty _ te hte).zl
    have hzn := (hT.ty _ te hte).zn
    obtain ⟨kl, hkl⟩ := litN_ok _ _ hl
    obtain ⟨kc, hkc⟩ := litN_ok _ _ hc
    split
    ·rename_i h1
     split
     ·rename_i h2
      split
      ·rename_i h3
       have h1' := Nat.le_of_ble_eq_true h1
       have h2' := Nat.le_of_ble_eq_true h2
       have h3' := Nat.le_of_ble_eq_true h3
       have hb : (i'.bytes : Int) * (c : Int) ≤ 281474976710656 := by
        have : i'.bytes * c ≤ 1000000 * 1000000 := Nat.mul_le_mul (by omega) h2'
        have h4 : ((i'.bytes * c : Nat) : Int) ≤ 281474976710656 := by omega
        rwa [Int.natCast_mul] at h4
       have hr := run_make (P := P) w t e i' z hd hi' hz kl kc l c (by omega) (by omega) hb (by omega)
       simp only [Int.toNat_natCast] at hr
       refine ⟨_, _, _, ?_, .inl rfl, Move.new H hn (.cells (reps te.zero c) e) (.cells (SV.denL ρ (reps te.zero c)).toArray e) rfl ?_, fun m hm => by simp [SV.names] at hm; omega⟩
       ·rw [hkl, hkc, Sem.run_bind, hr, Result.andThen_ok]
        have : madeCells z.cells (c * i'.size) = (SV.denL ρ (reps te.zero c)).toArray := by
         rw [hzc ρ, hsz, ← hzl, reps_den, ← reps_get]
         simp [madeCells, denL_length]
        rw [this]
        simp [SV.den, Rho.set_a]
       ·intro m hm
        have := reps_names te.zero c m (by simpa [SObj.names] using hm)
        rw [hzn] at this; cases this
      ·trivial
     ·trivial
    ·trivial
   ·trivial
  ·trivial
 ·trivial
theorem foldM2_ok (g : SV → SV → BR) (G : Value → Value → Sem Value) (hg : ∀ u v r, g u v = .ok r → (G (u.den ρ) (v.den ρ)).run P w = .ok (r.den ρ) w ∧ r.names = []) : ∀ (l : List SV) (x v : SV), NamesV nx x → foldM2 g x l = .ok v →
  ((l.map (SV.den ρ)).foldlM G (x.den ρ)).run P w = .ok (v.den ρ) w ∧ NamesV nx v
 | [], x, v, hx, h => by simp only [foldM2, BR.ok.injEq] at h; subst h; exact ⟨rfl, hx⟩
 | y :: l, x, v, hx, h => by
  simp only [foldM2] at h
  split at h
  ·rename_i r hr
   obtain ⟨h1, h2⟩ := hg _ _ _ hr
   obtain ⟨h3, h4⟩ := foldM2_ok g G hg l r v (fun m hm => by rw [h2] at hm; cases hm) h
   refine ⟨?_, h4⟩
   simp only [List.map_cons, List.foldlM_cons, Sem.run_bind, h1, Result.andThen_ok]
   exact h3
  ·rename_i hh; exact absurd h (hh v)
theorem min2_ok (hρ : ρ.Ok) (hp : Holds ρ pc) (u v r : SV) (h : min2S pc u v = .ok r) : (Builtin.min2 (u.den ρ) (v.den ρ)).run P w = .ok (r.den ρ) w ∧ r.names = [] := by
 unfold min2S at h
 split at h
 ·rename_i k e j f
  split at h
  ·rename_i hk
   have := (keq_iff _ _).1 hk
   subst this
   split at h
   ·rename_i hd
    simp only [BR.ok.injEq] at h; subst h
    have := dec_den hρ hp _ _ hd
    rw [mkLe_den, decide_eq_true_iff] at this
    have : ¬ f.den ρ < e.den ρ := by omega
    exact ⟨by simp [Builtin.min2, SV.den, this], rfl⟩
   ·rename_i hd
    simp only [BR.ok.injEq] at h; subst h
    have := dec_den hρ hp _ _ hd
    rw [mkLe_den, decide_eq_false_iff_not] at this
    have : f.den ρ < e.den ρ := by omega
    exact ⟨by simp [Builtin.min2, SV.den, this], rfl⟩
   ·split at h
    ·simp only [BR.ok.injEq] at h; subst h
     refine ⟨?_, rfl⟩
     by_cases c : e.den ρ ≤ f.den ρ
     ·have h1 : (IE.ite (.le e f) e f).den ρ = e.den ρ := by simp only [IE.den]; rw [if_pos (by simp only [BE.den]; exact decide_eq_true c)]
      have : ¬ f.den ρ < e.den ρ := by omega
      simp [Builtin.min2, SV.den, h1, this]
     ·have h1 : (IE.ite (.le e f) e f).den ρ = f.den ρ := by simp only [IE.den]; rw [if_neg (by simp only [BE.den, decide_eq_true_eq]; exact c)]
      have : f.den ρ < e.den ρ := by omega
      simp [Builtin.min2, SV.den, h1, this]
    ·cases h
  ·cases h
 ·cases h
theorem max2_ok (hρ : ρ.Ok) (hp : Holds ρ pc) (u v r : SV) (h : max2S pc u v = .ok r) : (Builtin.max2 (u.den ρ) (v.den ρ)).run P w = .ok (r.den ρ) w ∧ r.names = [] := by
 unfold max2S at h
 split at h
 ·rename_i k e j f
  split at h
  ·rename_i hk
   have := (keq_iff _ _).1 hk
   subst this
   split at h
   ·rename_i hd
    simp only [BR.ok.injEq] at h; subst h
    have := dec_den hρ hp _ _ hd
    rw [mkLe_den, decide_eq_true_iff] at this
    refine ⟨?_, rfl⟩
    simp only [Builtin.max2, SV.den]
    split
    ·rfl
    ·have : f.den ρ = e.den ρ := by omega
     rw [this]; rfl
   ·rename_i hd
    simp only [BR.ok.injEq] at h; subst h
    have := dec_den hρ hp _ _ hd
    rw [mkLe_den, decide_eq_false_iff_not] at this
    have : ¬ f.den ρ > e.den ρ := by omega
    exact ⟨by simp [Builtin.max2, SV.den, this], rfl⟩
   ·cases h
  ·cases h
 ·cases h
theorem plain_no {s : ST} {d : TypeDesc} (h : plainST s = true) (hst : StOk s d) : ∀ ms, d ≠ .interface ms := by
 rintro ms rfl
 cases s <;> simp [plainST, StOk] at h hst
theorem makeI_ok (hT : T.Ok P) (H : HeapR ρ b0 h w) (hn : HNames nx h) (hsl : SlotsR ρ sl a.tmps) (hs : SNames nx sl) (t : TypeId) (x : Operand) :
  ORok P ρ b0 h nx w (do pure (.value (← Instr.makeInterface t (a.eval x)))) (opMakeI T h nx sl t x) := by
 unfold opMakeI
 split
 ·rename_i ti hti
  obtain ⟨d, hd, hst, _⟩ := (hT.ty t ti hti).und
  split
  ·rename_i hp
   have hno := plain_no hp hst
   refine okSame H hn _ ?_ (fun m hm => ev_names hs x m (by simpa [SV.names] using hm))
   rw [ev_den hsl x]
   cases d <;> first
    | (exact absurd rfl (hno _))
    | (simp [Instr.makeInterface, run_underlying hd, SV.den])
  ·trivial
 ·trivial
theorem zeroS_ok {P : Program} {t : TypeId} {ti : TI} (hty : TyOk P t ti) {z : SV} (hz : zeroS ti = some z) (ρ : Rho) (w : World) : (zeroValue t).run P w = .ok (z.den ρ) w ∧ z.names = [] := by
 obtain ⟨i, zv, hi, hsz, hzv, hzc, hby⟩ := hty.info
 obtain ⟨d, hd, hst, hag⟩ := hty.und
 obtain ⟨z1, z2⟩ := hty.za i zv hi hzv
 have hzn := hty.zn
 unfold zeroS at hz
 split at hz
 ·rename_i ha
  cases hz
  obtain ⟨cs, rfl⟩ := z1 ha
  refine ⟨?_, by simpa [SV.names] using hzn⟩
  have := hzc ρ
  simp only [Value.cells] at this
  rw [run_zeroOf hi hzv, this]; rfl
 ·rename_i ha
  have ha' : ti.agg = false := by simpa using ha
  split at hz
  ·rename_i v hv
   cases hz
   rw [hv] at hzn
   refine ⟨?_, by simpa [SV.namesL] using hzn⟩
   have hc := hzc ρ
   rw [hv] at hc
   have e : zv.cells = #[zv] := by
    cases zv <;> first
     | rfl
     | (exact absurd rfl (z2 ha' _))
   rw [e] at hc
   simp [SV.denL] at hc
   rw [run_zeroOf hi hzv, hc]
  ·cases hz
theorem assert_ok (hT : T.Ok P) (H : HeapR ρ b0 h w) (hn : HNames nx h) (hsl : SlotsR ρ sl a.tmps) (hs : SNames nx sl) (x : Operand) (xt t : TypeId) (ok : Bool) :
  ORok P ρ b0 h nx w (do pure (.value (← Instr.typeAssert (a.eval x) xt t ok))) (opAssert T h nx sl x t ok) := by
 have hx := ev_names hs x
 unfold opAssert
 rw [ev_den hsl x]
 split
 ·rename_i ti hti
  obtain ⟨d, hd, hst, _⟩ := (hT.ty t ti hti).und
  split
  ·rename_i hp
   have hno := plain_no hp hst
   split
   ·rename_i u v he
    rw [he] at hx ⊢
    split
    ·rename_i hu
     have : u = t := by simpa using hu
     subst this
     refine okSame H hn _ ?_ ?_
     ·cases d <;> first
       | (exact absurd rfl (hno _))
       | (cases ok <;> simp [Instr.typeAssert, run_underlying hd, SV.den, SV.denL, BE.den])
     ·intro m hm
      refine hx m ?_
      simp only [SV.names]
      cases ok <;> simpa [SV.names, SV.namesL] using hm
    ·rename_i hu
     have hu' : ¬ u = t := by simpa using hu
     split
     ·rename_i hok
      subst hok
      split
      ·rename_i z hz
       obtain ⟨z1, z2⟩ := zeroS_ok (hT.ty t ti hti) hz ρ w
       refine okSame H hn _ ?_ (fun m hm => by simp [SV.names, SV.namesL, z2] at hm)
       cases d <;> first
        | (exact absurd rfl (hno _))
        | (simp [Instr.typeAssert, run_underlying hd, SV.den, SV.denL, BE.den, hu', z1])
      ·trivial
     ·trivial
   ·rename_i he
    rw [he]
    split
    ·rename_i hok
     subst hok
     split
     ·rename_i z hz
      obtain ⟨z1, z2⟩ := zeroS_ok (hT.ty t ti hti) hz ρ w
      refine okSame H hn _ ?_ (fun m hm => by simp [SV.names, SV.namesL, z2] at hm)
      cases d <;> first
       | (exact absurd rfl (hno _))
       | (simp [Instr.typeAssert, run_underlying hd, SV.den, SV.denL, BE.den, z1])
     ·trivial
    ·trivial
   ·trivial
  ·trivial
 ·trivial
theorem byteVals_den (l : List IE) : SV.denL ρ (byteVals l) = (l.map (IE.den ρ)).map (Value.int .u8) := by
  induction l with
  | nil => simp [byteVals, SV.denL]
  | cons e l ih => simp [byteVals, SV.denL, SV.den, ih]
theorem byteVals_names (l : List IE) : SV.namesL (byteVals l) = [] := by
  induction l with
  | nil => rfl
  | cons e l ih => simp [byteVals, SV.namesL, SV.names, ih]
theorem byteVals_length (l : List IE) : (byteVals l).length = l.length := by
  induction l with
  | nil => rfl
  | cons e l ih => simp [byteVals, ih]
theorem bytes_data (l : List IE) (hb : ∀ e ∈ l, 0 ≤ e.den ρ ∧ e.den ρ ≤ 255) : (bytesOf (l.map (IE.den ρ))).data.map (fun b => Value.int .u8 b.toNat) = (SV.denL ρ (byteVals l)).toArray := by
 rw [byteVals_den]
 apply Array.ext'
 simp only [bytesOf, List.map_toArray, List.map_map]
 apply List.map_congr_left
 intro e he
 obtain ⟨h0, h1⟩ := hb e he
 simp only [Function.comp]
 rw [byte_back h0 h1]
structure Src (P : Program) (ρ : Rho) (b0 : World) (h : SHeap) (nx size : Nat) (v : SV) (k : Nat) (cs : List SV) : Prop where
 len : cs.length = k * size
 names : ∀ m ∈ SV.namesL cs, m < nx
 lenOf : ∀ w, (Builtin.lenOf (v.den ρ)).run P w = .ok k w
 first : ∀ (w : World) (n : Nat), HeapR ρ b0 h w → n ≤ k → (Builtin.firstCells size n (v.den ρ)).run P w = .ok (SV.denL ρ (cs.take (n * size))).toArray w
theorem src_ok (hρ : ρ.Ok) (hp : Holds ρ pc) (hn : HNames nx h) (hlt : ∀ n o, lk h n = some o → ∀ m ∈ o.names, m < nx) (Hw : HeapR ρ b0 h w) {size : Nat} {v : SV} {k : Nat} {cs : List SV} (hs : srcCells pc h size v = some (k, cs)) : Src P ρ b0 h nx size v k cs := by
 have cells : ∀ (n off : Nat) (o : SObj) (l : List SV), lk h n = some o → o.cs = some l → off + k * size ≤ l.length → cs = (l.drop off).take (k * size) →
   cs.length = k * size ∧ (∀ m ∈ SV.namesL cs, m < nx) ∧ ∀ (w : World) (q c : Nat), HeapR ρ b0 h w → q ≤ k → (Builtin.firstCells size q (.slice (some ⟨ρ.a n, off, none⟩) k c)).run P w = .ok (SV.denL ρ (cs.take (q * size))).toArray w := by
  intro n off o l hlk hcs hle he
  have hlen : cs.length = k * size := by rw [he]; simp; omega
  obtain ⟨obj, ho, hR⟩ := Hw.at_ n _ hlk
  obtain ⟨_, _, _, _, _, _, _, hsub, _⟩ := obj_cells hR hcs
  refine ⟨hlen, ?_, ?_⟩
  ·intro m hm
   obtain ⟨v, hv, hm2⟩ := mem_namesL.1 hm
   rw [he] at hv
   exact hlt n o hlk m (hsub m (mem_namesL.2 ⟨v, List.mem_of_mem_drop (List.mem_of_mem_take hv), hm2⟩))
  ·intro w q c H hq
   have hqk : q * size ≤ k * size := Nat.mul_le_mul_right _ hq
   have := run_firstCells_some (P := P) w size q ⟨ρ.a n, off, none⟩ k c (SV.denL ρ (cs.take (q * size))) (by rw [denL_length, List.length_take, hlen]; exact Nat.min_eq_left hqk) ?_
   ·exact this
   ·intro j v hj
    rw [denL_get, List.getElem?_take] at hj
    split at hj
    ·rename_i hjq
     rw [he, List.getElem?_take] at hj
     split at hj
     ·rw [List.getElem?_drop] at hj
      cases hq2 : l[off + j]? with
      | none => simp [hq2] at hj
      | some u =>
       simp [hq2] at hj
       rw [addr_add, cell_at H hlk hcs hq2, hj]
     ·simp at hj
    ·simp at hj
 unfold srcCells at hs
 split at hs
 ·rename_i n off len cap
  split at hs
  ·rename_i l hl
   obtain ⟨o, hlk, hcs⟩ := ocs_some hl
   split at hs
   ·rename_i hle
    simp only [Option.some.injEq, Prod.mk.injEq] at hs
    obtain ⟨rfl, hcs2⟩ := hs
    obtain ⟨c1, c2, c3⟩ := cells n off o l hlk hcs (Nat.le_of_ble_eq_true hle) hcs2.symm
    exact ⟨c1, c2, fun w => by simp [Builtin.lenOf, SV.den], fun w q H hq => c3 w q cap H hq⟩
   ·cases hs
  ·cases hs
 ·rename_i n cn sz off len
  split at hs
  ·rename_i l hl
   obtain ⟨o, hlk, hcs⟩ := ocs_some hl
   split at hs
   ·rename_i hz
    have hz' : sz = size := by simpa using hz
    subst hz'
    split at hs
    ·rename_i hle
     simp only [Option.some.injEq, Prod.mk.injEq] at hs
     obtain ⟨rfl, hcs2⟩ := hs
     obtain ⟨c1, c2, c3⟩ := cells n (off * sz) o l hlk hcs (Nat.le_of_ble_eq_true hle) hcs2.symm
     exact ⟨c1, c2, fun w => by simp [Builtin.lenOf, SV.den], fun w q H hq => c3 w q _ H hq⟩
    ·cases hs
   ·cases hs
  ·cases hs
 ·simp only [Option.some.injEq, Prod.mk.injEq] at hs
  obtain ⟨rfl, rfl⟩ := hs
  exact ⟨by simp, by simp [SV.namesL], fun w => by simp [Builtin.lenOf, SV.den], fun w q H hq => by simp [Builtin.firstCells, SV.den, SV.denL]⟩
 ·rename_i bs
  split at hs
  ·rename_i hz
   have hz' : size = 1 := by simpa using hz
   subst hz'
   split at hs
   ·rename_i hb
    have hb' := allByte_ok hρ hp _ hb
    simp only [Option.some.injEq, Prod.mk.injEq] at hs
    obtain ⟨rfl, rfl⟩ := hs
    refine ⟨by simp [byteVals_length], by simp [byteVals_names], fun w => ?_, fun w q H hq => ?_⟩
    ·have : (bytesOf (bs.map (IE.den ρ))).size = bs.length := by rw [bytesOf_size]; simp
     simp [Builtin.lenOf, SV.den, this]
    ·simp only [Builtin.firstCells, SV.den, Nat.mul_one]
     have hd := bytes_data bs hb'
     have e1 : ((bytesOf (bs.map (IE.den ρ))).extract 0 q).data.map (fun b => Value.int .u8 b.toNat) = ((bytesOf (bs.map (IE.den ρ))).data.map (fun b => Value.int .u8 b.toNat)).extract 0 q := by
      rw [ByteArray.data_extract]
      apply Array.ext'
      simp
     rw [e1, hd]
     have e2 : (SV.denL ρ (byteVals bs)).toArray.extract 0 q = (SV.denL ρ ((byteVals bs).take q)).toArray := by
      apply Array.ext'
      simp [denL_take]
     rw [e2]; rfl
   ·cases hs
  ·cases hs
 ·cases hs
end
end Go.Proofs.Ythenenacmiiphaa.Sx
namespace Go.Proofs.Ythenenacmiiphaa.Sx
open Go
section
variable {P : Program} {T : Tab} {ρ : Rho} {b0 : World} {pc : List BE} {h : SHeap} {nx : Nat} {w : World} {sl : Slots} {a : Act} {S : Sem Next}
def Rho.set2 (ρ : Rho) (n A C : Nat) : Rho := (ρ.set n A).set (n + 1) C
theorem Rho.set2_agr (ρ : Rho) (n A C : Nat) : Agr ρ (ρ.set2 n A C) n (n + 2) := ⟨rfl, rfl, rfl, rfl, rfl, fun m hm => by
 have h1 : m ≠ n := by omega
 have h2 : m ≠ n + 1 := by omega
 simp [Rho.set2, Rho.set, h1, h2]⟩
theorem Rho.set2_a (ρ : Rho) (n A C : Nat) : (ρ.set2 n A C).a n = A := by simp [Rho.set2, Rho.set]
theorem Rho.set2_c (ρ : Rho) (n A C : Nat) : (ρ.set2 n A C).a (n + 1) = C := by simp [Rho.set2, Rho.set]
theorem Move.row (H : HeapR ρ b0 h w) (hn : HNames nx h) {h0 : SHeap} (hsub : ∀ k p, lk h0 k = some p → lk h k = some p) {A C : Nat} {w' : World} {o : SObj} {obj : Obj}
  (g0 : Grew b0 w') (hsz : w.heap.size ≤ w'.heap.size) (hA : w.heap.size ≤ A ∨ ∃ n p, lk h n = some p ∧ ρ.a n = A ∧ lk h0 n = none)
  (hobj : w'.heap[A]? = some obj) (hkeep : ∀ k p, lk h0 k = some p → w'.heap[ρ.a k]? = w.heap[ρ.a k]?)
  (hsame : ∀ k, k < w.heap.size → (∀ n o, lk h n = some o → ρ.a n ≠ k) → w'.heap[k]? = w.heap[k]?)
  (ho : ObjR (ρ.set2 nx A C) o obj) (hon : ∀ m ∈ o.names, m < nx + 2) : Move ρ (ρ.set2 nx A C) b0 h ((nx, o) :: h0) nx (nx + 2) w w' := by
 have g := ρ.set2_agr nx A C
 have hold : ∀ n p, lk h0 n = some p → (ρ.set2 nx A C).a n = ρ.a n := fun n p hp => g.a n (.inl (hn n p (hsub n p hp)).1)
 have hown : b0.heap.size ≤ A := by
  rcases hA with hA | ⟨n, p, h1, h2, _⟩
  ·exact Nat.le_trans H.g0.size hA
  ·rw [← h2]; exact H.own n p h1
 have hne : ∀ k p, lk h0 k = some p → ρ.a k ≠ A := by
  intro k p hp he
  rcases hA with hA | ⟨n, q, h1, h2, h3⟩
  ·have := H.lt (hsub k p hp); omega
  ·have := H.inj k n p q (hsub k p hp) h1 (by rw [he, h2])
   subst this
   rw [hp] at h3; cases h3
 refine ⟨g, by omega, ⟨g0, ?_, ?_, ?_⟩, hsz, hsame, ?_, ?_⟩
 ·intro n p hp
  rw [lk_cons] at hp
  split at hp
  ·rename_i he
   subst he
   cases hp
   exact ⟨obj, by rw [Rho.set2_a]; exact hobj, ho⟩
  ·obtain ⟨ob, h1, h2⟩ := H.at_ n p (hsub n p hp)
   exact ⟨ob, by rw [hold n p hp, hkeep n p hp]; exact h1, h2.agr g (fun m hm => .inl ((hn n p (hsub n p hp)).2 m hm))⟩
 ·intro n p hp
  rw [lk_cons] at hp
  split at hp
  ·rename_i he
   subst he
   rw [Rho.set2_a]; exact hown
  ·rw [hold n p hp]; exact H.own n p (hsub n p hp)
 ·intro n m p q hp hq he
  rw [lk_cons] at hp hq
  split at hp
  ·rename_i e1
   subst e1
   split at hq
   ·rename_i e2; exact e2
   ·rw [Rho.set2_a, hold m q hq] at he
    exact absurd he.symm (hne m q hq)
  ·split at hq
   ·rename_i e2
    subst e2
    rw [Rho.set2_a, hold n p hp] at he
    exact absurd he (hne n p hp)
   ·rw [hold n p hp, hold m q hq] at he
    exact H.inj n m p q (hsub n p hp) (hsub m q hq) he
 ·intro n p hp
  rw [lk_cons] at hp
  split at hp
  ·rename_i he
   subst he
   refine .inr ⟨Nat.le_refl _, by omega, ?_⟩
   rw [Rho.set2_a]
   rcases hA with hA | ⟨m, q, h1, h2, _⟩
   ·exact .inl hA
   ·exact .inr ⟨m, q, h1, h2.symm⟩
  ·exact .inl ⟨p, hsub n p hp⟩
 ·intro n p hp
  rw [lk_cons] at hp
  split at hp
  ·rename_i he
   subst he
   cases hp
   exact ⟨by omega, hon⟩
  ·have := hn n p (hsub n p hp)
   exact ⟨by omega, fun m hm => by have := this.2 m hm; omega⟩
def srcTy (d : TypeDesc) : Prop := (∃ e, d = .slice e) ∨ d = .string
theorem append_grow {t u ty e : TypeId} {i : TypeInfo} {z x : Value} {du : TypeDesc} {base : Option Addr} {sLen sCap k : Nat} {old new : Array Value} (ht : P.underlying t = some (.slice e)) (hu : P.underlying u = some du) (hd : srcTy du) (hi : P.info? e = some i) (hz : i.zero = some z)
  (hlen : (Builtin.lenOf x).run P w = .ok k w) (hold : (Builtin.firstCells i.size sLen (.slice base sLen sCap)).run P w.drew = .ok old w.drew) (hnew : (Builtin.firstCells i.size k x).run P w.drew = .ok new w.drew)
  (hroom : ¬ sLen + k ≤ sCap) (h63 : ((sLen + k : Nat) : Int) ≤ 9223372036854775807) (hfit : Builtin.nextslicecap (sLen + k) sCap * i.bytes ≤ 281474976710656) :
  (Builtin.append_ #[t, u] ty #[.slice base sLen sCap, x]).run P w = .ok (.slice (some ⟨w.heap.size, 0, none⟩) (sLen + k) (grownCap w (sLen + k) sCap e)) (w.drew.alloc (.cells (old ++ new ++ Builtin.zeroCells z.cells (grownCap w (sLen + k) sCap e - (sLen + k))) e)) := by
 have h63' : ¬ (9223372036854775807 < ((sLen : Int) + (k : Int))) := by omega
 have h48' : ¬ (281474976710656 < Builtin.nextslicecap (sLen + k) sCap * i.bytes) := by omega
 rcases hd with ⟨e', rfl⟩ | rfl <;>
  simp [Builtin.append_, run_underlying ht, run_underlying hu, sizeOf, typeInfo, zeroValue, hi, hz, hlen, hroom, h63', h48', Question.forced, hold, hnew, newRow, grownCap]
theorem append_in {t u ty e : TypeId} {i : TypeInfo} {x : Value} {du : TypeDesc} {g off sLen sCap k : Nat} {new : List Value} {w' : World} (ht : P.underlying t = some (.slice e)) (hu : P.underlying u = some du) (hd : srcTy du) (hi : P.info? e = some i)
  (hlen : (Builtin.lenOf x).run P w = .ok k w) (hnew : (Builtin.firstCells i.size k x).run P w = .ok new.toArray w) (hroom : sLen + k ≤ sCap) (hst : (storeCells ⟨g, off + sLen * i.size, none⟩ new).run P w = .ok () w') :
  (Builtin.append_ #[t, u] ty #[.slice (some ⟨g, off, none⟩) sLen sCap, x]).run P w = .ok (.slice (some ⟨g, off, none⟩) (sLen + k) sCap) w' := by
 rcases hd with ⟨e', rfl⟩ | rfl <;>
  simp [Builtin.append_, run_underlying ht, run_underlying hu, sizeOf, typeInfo, hi, hlen, hroom, hnew, addr_add, hst]
theorem append_nil0 {t u ty e : TypeId} {i : TypeInfo} {x : Value} {du : TypeDesc} (ht : P.underlying t = some (.slice e)) (hu : P.underlying u = some du) (hd : srcTy du) (hi : P.info? e = some i)
  (hlen : (Builtin.lenOf x).run P w = .ok 0 w) (hnew : (Builtin.firstCells i.size 0 x).run P w = .ok #[] w) :
  (Builtin.append_ #[t, u] ty #[.slice none 0 0, x]).run P w = .ok (.slice none 0 0) w := by
 rcases hd with ⟨e', rfl⟩ | rfl <;>
  simp [Builtin.append_, run_underlying ht, run_underlying hu, sizeOf, typeInfo, hi, hlen, hnew]
theorem newRow_ok (H : HeapR ρ b0 h w) (hn : HNames nx h) {h0 : SHeap} (hsub : ∀ k p, lk h0 k = some p → lk h k = some p) {S : Sem Next} {cs : List SV} {e : TypeId} {sz len cap : Nat} {rest : Array Value} {lo hi : Nat} {w' : World} (hw : ∃ wd : World, HeapR ρ b0 h wd ∧ wd.heap = w.heap ∧ w'.heap = wd.heap.push (.cells ((SV.denL ρ cs).toArray ++ rest) e (lo, hi)) ∧ w'.os = wd.os ∧ w'.tape = wd.tape ∧ w'.output = wd.output ∧ w'.drawn = wd.drawn)
  (hr : S.run P w = .ok (.value (.slice (some ⟨w.heap.size, 0, none⟩) len cap)) w') (hfz : hi ≤ lo ∨ cs.length + rest.size ≤ lo) (hcap : cs.length + rest.size = cap * sz) (hmax : cap ≤ maxLen) (hpos : 0 < sz) (hcn : ∀ m ∈ SV.namesL cs, m < nx) :
  ORok P ρ b0 h nx w S (newRowS h0 nx cs e sz len) := by
 obtain ⟨wd, Hd, e1, e2, e3, e4, e5, e6⟩ := hw
 have g := ρ.set2_agr nx w.heap.size cap
 have hden : SV.denL (ρ.set2 nx w.heap.size cap) cs = SV.denL ρ cs := SV.denL_agr g cs (fun m hm => .inl (hcn m hm))
 refine ⟨ρ.set2 nx w.heap.size cap, w', _, hr, .inl ?_, Move.row H hn hsub ?_ ?_ (.inl (Nat.le_refl _)) (obj := .cells ((SV.denL ρ cs).toArray ++ rest) e (lo, hi)) ?_ ?_ ?_ ?_ ?_, ?_⟩
 ·simp [SV.den, Rho.set2_a, Rho.set2_c]
 ·refine ⟨⟨e3.trans Hd.g0.os, e4.trans Hd.g0.tape, e5.trans Hd.g0.output, by rw [e2]; simp; exact Nat.le_succ_of_le Hd.g0.size, fun k hk hne => ?_⟩, by rw [e6]; exact Hd.g0.dr⟩
  have := Hd.g0.size
  rw [e2, Array.getElem?_push_lt (by omega), ← Array.getElem?_eq_getElem]
  exact Hd.g0.block k hk hne
 ·rw [e2, e1]; simp
 ·rw [e2, e1]; simp
 ·intro k p hp
  have := H.lt (hsub k p hp)
  rw [e2, e1, Array.getElem?_push_lt this, ← Array.getElem?_eq_getElem]
 ·intro k hk _
  rw [e2, e1, Array.getElem?_push_lt hk, ← Array.getElem?_eq_getElem]
 ·refine ⟨rest, lo, hi, by rw [hden], hfz, by rw [Rho.set2_c]; exact hcap, by rw [Rho.set2_c]; exact hmax, hpos⟩
 ·intro m hm
  simp only [SObj.names, List.mem_cons] at hm
  rcases hm with rfl | hm
  ·omega
  ·have := hcn m hm; omega
 ·intro m hm
  simp only [SV.names, List.mem_cons, List.not_mem_nil, or_false] at hm
  omega
theorem lk_rmH (n : Nat) (h : SHeap) (m : Nat) : lk (rmH n h) m = if m = n then none else lk h m := by
  induction h with
  | nil => simp [rmH, lk_nil]
  | cons p h ih =>
    obtain ⟨k, o⟩ := p
    simp only [rmH]
    split
    · rename_i e
      have e' : k = n := by simpa using e
      subst e'
      rw [ih, lk_cons]
      by_cases hm : m = k
      · simp [hm]
      · simp [hm, Ne.symm hm]
    · rename_i e
      have e' : ¬ k = n := by simpa using e
      rw [lk_cons, ih, lk_cons]
      by_cases hm : k = m
      · subst hm; simp [e']
      · simp [hm]
theorem appendTo_ok (hT : T.Ok P) (H : HeapR ρ b0 h w) (hn : HNames nx h) {t u ty e : TypeId} {te : TI} {du : TypeDesc} (ht : P.underlying t = some (.slice e)) (hu : P.underlying u = some du) (hd : srcTy du) (hte : T.ty.get e = some te)
  (hby : te.bytes ≤ 1000000) (hpos : 0 < te.size) {k : Nat} {new : List SV} {x : SV} (hsrc : Src P ρ b0 h nx te.size x k new) (hk : k ≤ 1000000) (hone : allOne new = true) {s : SV} (hsn : NamesV nx s) :
  ORok P ρ b0 h nx w (do pure (.value (← Builtin.append_ #[t, u] ty #[s.den ρ, x.den ρ]))) (appendTo h nx e te.size k new s) := by
 obtain ⟨i, z, hi, hsz, hz, hzc, hib⟩ := (hT.ty _ te hte).info
 have hzl := (hT.ty _ te hte).zl
 have hdrew : HeapR ρ b0 h w.drew := drewN_heap H
 have hnewd : (Builtin.firstCells i.size k (x.den ρ)).run P w.drew = .ok (SV.denL ρ new).toArray w.drew := by
  have := hsrc.first w.drew k hdrew (Nat.le_refl _)
  rw [List.take_of_length_le (by rw [hsrc.len]; exact Nat.le_refl _)] at this
  rw [hsz]; exact this
 have hneww : (Builtin.firstCells i.size k (x.den ρ)).run P w = .ok (SV.denL ρ new).toArray w := by
  have := hsrc.first w k H (Nat.le_refl _)
  rw [List.take_of_length_le (by rw [hsrc.len]; exact Nat.le_refl _)] at this
  rw [hsz]; exact this
 have hfit : ∀ sLen sCap, sCap < sLen + k → sLen + k ≤ 100000000 → Builtin.nextslicecap (sLen + k) sCap * i.bytes ≤ 281474976710656 := by
  intro sLen sCap h1 h2
  refine growslice_fits h1 ?_
  have : (sLen + k) * i.bytes ≤ 100000000 * 1000000 := Nat.mul_le_mul h2 (by omega)
  omega
 have hzs : z.cells.size = te.size := by rw [hzc ρ]; simp [denL_length, hzl]
 -- what the growing arm leaves
 have grow : ∀ (h0 : SHeap), (∀ k p, lk h0 k = some p → lk h k = some p) → ∀ (base : Option Addr) (sLen sCap : Nat) (old : List SV), s.den ρ = .slice base sLen sCap → old.length = sLen * te.size → (∀ m ∈ SV.namesL old, m < nx) → (Builtin.firstCells i.size sLen (.slice base sLen sCap)).run P w.drew = .ok (SV.denL ρ old).toArray w.drew → ¬ sLen + k ≤ sCap → sLen + k ≤ 100000000 →
   ORok P ρ b0 h nx w (do pure (.value (← Builtin.append_ #[t, u] ty #[s.den ρ, x.den ρ]))) (newRowS h0 nx (old ++ new) e te.size (sLen + k)) := by
  intro h0 hsub0 base sLen sCap old hs hol hon hold hroom hbig
  have hr := append_grow (ty := ty) ht hu hd hi hz (hsrc.lenOf w) hold hnewd hroom (by omega) (hfit sLen sCap (by omega) hbig)
  have hge := grownCap_ge w (sLen + k) sCap e
  have hle := grownCap_le_maxLen w (sLen + k) sCap e (by simp [maxLen]; omega)
  refine newRow_ok H hn hsub0 (S := do pure (.value (← Builtin.append_ #[t, u] ty #[s.den ρ, x.den ρ]))) (cap := grownCap w (sLen + k) sCap e) (rest := Builtin.zeroCells z.cells (grownCap w (sLen + k) sCap e - (sLen + k))) (lo := 0) (hi := 0) (w' := w.drew.alloc (.cells ((SV.denL ρ old).toArray ++ (SV.denL ρ new).toArray ++ Builtin.zeroCells z.cells (grownCap w (sLen + k) sCap e - (sLen + k))) e)) ⟨w.drew, hdrew, rfl, ?_, rfl, rfl, rfl, rfl⟩ ?_ (.inl (Nat.le_refl _)) ?_ hle hpos ?_
  ·show (w.drew.heap.push _) = _
   congr 2
   rw [denL_append]; simp
  ·rw [Sem.run_bind, hs, hr]; rfl
  ·rw [List.length_append, hol, hsrc.len, size_zeroCells, hzs, ← Nat.add_mul, ← Nat.add_mul]
   congr 1; omega
  ·intro m hm
   obtain ⟨v, hv, hm2⟩ := mem_namesL.1 hm
   rcases List.mem_append.1 hv with hv | hv
   ·exact hon m (mem_namesL.2 ⟨v, hv, hm2⟩)
   ·exact hsrc.names m (mem_namesL.2 ⟨v, hv, hm2⟩)
 unfold appendTo
 split
 ·-- nil
  split
  ·rename_i hk0
   have : k = 0 := by simpa using hk0
   subst this
   refine okSame H hn _ ?_ (fun m hm => by cases hm)
   have hn0 : new = [] := List.eq_nil_of_length_eq_zero (by simpa using hsrc.len)
   have := append_nil0 (ty := ty) (w := w) ht hu hd hi (hsrc.lenOf w) (by rw [hneww, hn0]; rfl)
   rw [Sem.run_bind]
   simp only [SV.den]
   rw [this]; rfl
  ·rename_i hk0
   have hk0' : ¬ k = 0 := by simpa using hk0
   have := grow h (fun k p hp => hp) none 0 0 [] rfl (by simp) (by simp [SV.namesL]) (by simp [Builtin.firstCells, SV.denL]) (by omega) (by omega)
   simpa using this
 ·rename_i n off len cap
  split
  ·rename_i cs o hcs hlk
   have hcs' : o.cs = some cs := by
    obtain ⟨o', h1, h2⟩ := ocs_some hcs
    rw [hlk] at h1; cases h1; exact h2
   split
   ·rename_i hroom
    have hroom' := Nat.le_of_ble_eq_true hroom
    split
    ·rename_i hfitc
     have hfitc' := Nat.le_of_ble_eq_true hfitc
     obtain ⟨w', hst, hmv⟩ := write_ok (P := P) H hn hlk hcs' hfitc' hone hsrc.names
     refine ⟨ρ, w', _, ?_, .inl rfl, hmv, fun m hm => hsn m (by simpa [SV.names] using hm)⟩
     rw [Sem.run_bind]
     simp only [SV.den]
     rw [append_in (ty := ty) ht hu hd hi (hsrc.lenOf w) hneww hroom' (by rw [hsz]; exact hst)]; rfl
    ·trivial
   ·rename_i hroom
    have hroom' : ¬ len + k ≤ cap := fun hh => hroom (Nat.ble_eq_true_of_le hh)
    split
    ·rename_i hle
     have hle' := Nat.le_of_ble_eq_true hle
     split
     ·rename_i hc
      have hc' := Nat.le_of_ble_eq_true hc
      obtain ⟨obj, ho, hR⟩ := H.at_ n _ hlk
      obtain ⟨_, _, _, _, _, _, _, hsub, _⟩ := obj_cells hR hcs'
      refine grow h (fun k p hp => hp) (some ⟨ρ.a n, off, none⟩) len cap ((cs.drop off).take (len * te.size)) rfl (by simp; omega) ?_ ?_ hroom' ?_
      ·intro m hm
       obtain ⟨v, hv, hm2⟩ := mem_namesL.1 hm
       exact (hn n o hlk).2 m (hsub m (mem_namesL.2 ⟨v, List.mem_of_mem_drop (List.mem_of_mem_take hv), hm2⟩))
      ·have := run_firstCells_some (P := P) w.drew i.size len ⟨ρ.a n, off, none⟩ len cap (SV.denL ρ ((cs.drop off).take (len * te.size))) (by rw [denL_length, hsz]; simp; omega) ?_
       ·exact this
       ·intro j v hj
        rw [denL_get, List.getElem?_take] at hj
        split at hj
        ·rw [List.getElem?_drop] at hj
         cases hq2 : cs[off + j]? with
         | none => simp [hq2] at hj
         | some u =>
          simp [hq2] at hj
          rw [addr_add, cell_at hdrew hlk hcs' hq2, hj]
        ·simp at hj
      ·omega
     ·trivial
    ·trivial
  ·trivial
 ·rename_i n cn sz off len
  split
  ·rename_i cs u' dn zs hlk
   split
   ·rename_i q0
    split
    ·rename_i q1
     split
     ·rename_i q2
      split
      ·rename_i q3
       split
       ·rename_i q4
        split
        ·rename_i q5
         split
         ·rename_i q6
          have q0' : off = 0 := by simpa using q0
          have q1' : zs = sz := by simpa using q1
          have q2' : dn = cn := by simpa using q2
          have q3' : sz = te.size := by simpa using q3
          have q6' : u' = e := by simpa using q6
          have q4' := Nat.le_of_ble_eq_true q4
          have q5' := Nat.le_of_ble_eq_true q5
          subst q0'; subst q1'; subst q2'; subst q3'; subst q6'
          obtain ⟨obj, ho, hR⟩ := H.at_ n _ hlk
          obtain ⟨rest, flo, fhi, rfl, hfz, hcap, hmx, _⟩ := hR
          have hnc : len ≤ ρ.a dn := by
           have : len * te.size ≤ ρ.a dn * te.size := by omega
           exact Nat.le_of_mul_le_mul_right this hpos
          split
          ·rename_i hk0
           have : k = 0 := by simpa using hk0
           subst this
           have hn0 : new = [] := List.eq_nil_of_length_eq_zero (by simpa using hsrc.len)
           refine okSame H hn _ ?_ hsn
           rw [Sem.run_bind]
           simp only [SV.den]
           rw [append_in (ty := ty) (new := []) (w' := w) ht hu hd hi (hsrc.lenOf w) (by rw [hneww, hn0]; rfl) (by omega) (by simp [storeCells])]; rfl
          ·rename_i hk0
           have hk0' : ¬ k = 0 := by simpa using hk0
           have hsub0 : ∀ k p, lk (rmH n h) k = some p → lk h k = some p := by
            intro m p hp
            rw [lk_rmH] at hp
            split at hp
            ·cases hp
            ·exact hp
           have hcsn : ∀ m ∈ SV.namesL cs, m < nx := fun m hm => (hn n _ hlk).2 m (by simp [SObj.names, hm])
           split
           ·rename_i hin
            have hin' := Nat.le_of_ble_eq_true hin
            have hnl := hsrc.len
            have hroom : len + k ≤ ρ.a dn := by
             have : (len + k) * te.size ≤ ρ.a dn * te.size := by rw [Nat.add_mul]; omega
             exact Nat.le_of_mul_le_mul_right this hpos
            obtain ⟨w', hst, hmv⟩ := write_ok (P := P) (off := len * te.size) H hn hlk rfl hin' hone hsrc.names
            refine ⟨ρ, w', .value (.slice (some ⟨ρ.a n, 0 * te.size, none⟩) (len + k) (ρ.a dn - 0)), ?_, .inl ?_, hmv, fun m hm => hsn m (by simpa [SV.names] using hm)⟩
            ·rw [Sem.run_bind]
             simp only [SV.den]
             rw [append_in (ty := ty) (sCap := ρ.a dn - 0) ht hu hd hi (hsrc.lenOf w) hneww hroom (by rw [hsz, Nat.zero_mul, Nat.zero_add]; exact hst)]; rfl
            ·simp [SV.den]
           rename_i hnin
           by_cases hroom : len + k ≤ ρ.a dn
           ·have hnl := hsrc.len
            have hsum : len * te.size + k * te.size ≤ ρ.a dn * te.size := by rw [← Nat.add_mul]; exact Nat.mul_le_mul_right _ hroom
            have hst := storeCells_run (P := P) (ρ.a n) (0 * te.size + len * te.size) u' (flo, fhi) (SV.denL ρ new) 0 _ w ho (by simpa [denL_length] using hfz) (by simp [denL_length]; omega) (allOne_den ρ new hone)
            simp only [Nat.add_zero] at hst
            have hlt := H.lt hlk
            have hv : w.heap[ρ.a n] = .cells ((SV.denL ρ cs).toArray ++ rest) u' (flo, fhi) := (Array.getElem?_eq_some_iff.1 ho).2
            have hown := H.own n _ hlk
            have g := ρ.set2_agr nx (ρ.a n) (ρ.a dn)
            have hcell : (((SV.denL ρ cs).toArray ++ rest).toList.take (0 * te.size + len * te.size) ++ SV.denL ρ new ++ ((SV.denL ρ cs).toArray ++ rest).toList.drop (0 * te.size + len * te.size + (SV.denL ρ new).length)).toArray = (SV.denL ρ (cs.take (len * te.size) ++ new)).toArray ++ (((SV.denL ρ cs).toArray ++ rest).toList.drop (len * te.size + new.length)).toArray := by
             apply Array.ext'
             rw [denL_append, denL_take, denL_length]
             simp only [Array.toList_append, List.append_assoc, Nat.zero_mul, Nat.zero_add]
             rw [List.take_append_of_le_length (by simp [denL_length]; omega)]
            have hold : ∀ l : List SV, (∀ m ∈ SV.namesL l, m < nx) → SV.denL (ρ.set2 nx (ρ.a n) (ρ.a dn)) l = SV.denL ρ l := fun l hl => SV.denL_agr g l (fun m hm => .inl (hl m hm))
            have htn : ∀ m ∈ SV.namesL (cs.take (len * te.size) ++ new), m < nx := by
             intro m hm
             obtain ⟨v, hv, hm2⟩ := mem_namesL.1 hm
             rcases List.mem_append.1 hv with hv | hv
             ·exact hcsn m (mem_namesL.2 ⟨v, List.mem_of_mem_take hv, hm2⟩)
             ·exact hsrc.names m (mem_namesL.2 ⟨v, hv, hm2⟩)
            obtain ⟨CS, hCS⟩ : ∃ CS, CS = (((SV.denL ρ cs).toArray ++ rest).toList.take (0 * te.size + len * te.size) ++ SV.denL ρ new ++ ((SV.denL ρ cs).toArray ++ rest).toList.drop (0 * te.size + len * te.size + (SV.denL ρ new).length)).toArray := ⟨_, rfl⟩
            rw [← hCS] at hst hcell
            have hoth : ∀ k, k ≠ ρ.a n → (w.setRow (ρ.a n) CS).heap[k]? = w.heap[k]? := fun k hk => setRow_other w (ρ.a n) k _ hk
            refine ⟨ρ.set2 nx (ρ.a n) (ρ.a dn), w.setRow (ρ.a n) CS, .value (.slice (some ⟨ρ.a n, 0 * te.size, none⟩) (len + k) (ρ.a dn - 0)), ?_, .inl ?_, Move.row H hn hsub0 ?_ (by simp) (.inr ⟨n, _, hlk, rfl, by rw [lk_rmH]; simp⟩) (setRow_heap w (ρ.a n) _ CS u' (flo, fhi) ho) ?_ ?_ ?_ ?_, ?_⟩
            ·rw [Sem.run_bind]
             simp only [SV.den]
             rw [append_in (ty := ty) (sCap := ρ.a dn - 0) ht hu hd hi (hsrc.lenOf w) hneww hroom (by rw [hsz]; exact hst)]; rfl
            ·simp [SV.den, Rho.set2_a, Rho.set2_c]
            ·refine ⟨⟨H.g0.os, H.g0.tape, H.g0.output, by simpa using H.g0.size, fun k hk hne => ?_⟩, H.g0.dr⟩
             rw [hoth k (by omega)]; exact H.g0.block k hk hne
            ·intro m p hp
             rw [lk_rmH] at hp
             split at hp
             ·cases hp
             ·rename_i hmn
              exact hoth _ (fun he => hmn (H.inj m n p _ hp hlk he))
            ·intro k hk hne
             exact hoth k (fun he => hne n _ hlk he.symm)
            ·refine ⟨(((SV.denL ρ cs).toArray ++ rest).toList.drop (len * te.size + new.length)).toArray, flo, fhi, ?_, ?_, ?_, by rw [Rho.set2_c]; exact hmx, hpos⟩
             ·rw [hcell, hold _ htn]
             ·simp [denL_length]; omega
             ·rw [Rho.set2_c]
              simp [denL_length]; omega
            ·intro m hm
             simp only [SObj.names, List.mem_cons] at hm
             rcases hm with rfl | hm
             ·omega
             ·have := htn m hm; omega
            ·intro m hm
             simp only [SV.names, List.mem_cons, List.not_mem_nil, or_false] at hm
             omega
           ·refine grow (rmH n h) hsub0 (some ⟨ρ.a n, 0 * te.size, none⟩) len (ρ.a dn - 0) (cs.take (len * te.size)) rfl (by simp; omega) ?_ ?_ (by omega) (by omega)
            ·intro m hm
             obtain ⟨v, hv, hm2⟩ := mem_namesL.1 hm
             exact hcsn m (mem_namesL.2 ⟨v, List.mem_of_mem_take hv, hm2⟩)
            ·have := run_firstCells_some (P := P) w.drew i.size len ⟨ρ.a n, 0 * te.size, none⟩ len (ρ.a dn - 0) (SV.denL ρ (cs.take (len * te.size))) (by rw [denL_length, hsz]; simp; omega) ?_
             ·exact this
             ·intro j v hj
              rw [denL_get, List.getElem?_take] at hj
              split at hj
              ·cases hq2 : cs[j]? with
               | none => simp [hq2] at hj
               | some u =>
                simp [hq2] at hj
                rw [addr_add, Nat.zero_mul, Nat.zero_add, cell_at hdrew hlk rfl hq2, hj]
              ·simp at hj
         ·trivial
        ·trivial
       ·trivial
      ·trivial
     ·trivial
    ·trivial
   ·trivial
  ·trivial
 ·trivial
theorem copyTo_ok (hT : T.Ok P) (H : HeapR ρ b0 h w) (hn : HNames nx h) {t t2 ty e : TypeId} {te : TI} (ht : P.underlying t = some (.slice e)) (hte : T.ty.get e = some te) {k : Nat} {new : List SV} {x : SV} (hsrc : Src P ρ b0 h nx te.size x k new) (hone : allOne new = true) {n off len cap : Nat} {s : Value} (hs : s = .slice (some ⟨ρ.a n, off, none⟩) len cap) :
    ORok P ρ b0 h nx w (do pure (.value (← Builtin.copy_ #[t, t2] ty #[s, x.den ρ]))) (copyTo h nx n off (Nat.min k len) (new.take (Nat.min k len * te.size))) := by
  obtain ⟨i, z, hi, hsz, hz, hzc, hib⟩ := (hT.ty _ te hte).info
  unfold copyTo
  split
  · rename_i o hlk
    split
    · rename_i cs hcs
      split
      · rename_i hle
        have hle' := Nat.le_of_ble_eq_true hle
        have hone' : allOne (new.take (Nat.min k len * te.size)) = true := by
          have : ∀ (l : List SV) (q : Nat), allOne l = true → allOne (l.take q) = true := by
            intro l
            induction l with
            | nil => intro q _; simp [allOne]
            | cons a l ih =>
              intro q hl
              cases q with
              | zero => simp [allOne]
              | succ q =>
                simp only [allOne] at hl
                split at hl
                · rename_i h1; simp [allOne, h1, ih q hl]
                · cases hl
          exact this _ _ hone
        obtain ⟨w', hst, hmv⟩ := write_ok (P := P) H hn hlk hcs hle' hone' (fun m hm => by
          obtain ⟨v, hv, hm2⟩ := mem_namesL.1 hm
          exact hsrc.names m (mem_namesL.2 ⟨v, List.mem_of_mem_take hv, hm2⟩))
        have hf := hsrc.first w (Nat.min k len) H (Nat.min_le_left _ _)
        refine ⟨ρ, w', _, ?_, .inl rfl, hmv, fun m hm => by cases hm⟩
        rw [Sem.run_bind, hs]
        have : (Builtin.copy_ #[t, t2] ty #[.slice (some ⟨ρ.a n, off, none⟩) len cap, x.den ρ]).run P w = .ok (goInt (Nat.min k len)) w' := by
          have hl := hsrc.lenOf w
          simp only [Builtin.copy_]
          simp [run_underlying ht, sizeOf, typeInfo, hi, hl, hsz, hf, hst]
        rw [this]; rfl
      · trivial
    · trivial
  · trivial
end
end Go.Proofs.Ythenenacmiiphaa.Sx
namespace Go.Proofs.Ythenenacmiiphaa.Sx
open Go
section
variable {P : Program} {T : Tab} {ρ : Rho} {b0 : World} {pc : List BE} {h : SHeap} {nx : Nat} {w : World} {sl : Slots} {a : Act} {S : Sem Next}
theorem symAppend_ok (hT : T.Ok P) (hρ : ρ.Ok) (hp : Holds ρ pc) (H : HeapR ρ b0 h w) (hn : HNames nx h) {t u ty : TypeId} {s x : SV} (hsn : NamesV nx s) :
  ORok P ρ b0 h nx w (do pure (.value (← Builtin.append_ #[t, u] ty #[s.den ρ, x.den ρ]))) (symAppend T pc h nx t u s x) := by
 have hlt : ∀ n o, lk h n = some o → ∀ m ∈ o.names, m < nx := fun n o hl => (hn n o hl).2
 unfold symAppend
 split
 ·rename_i ti tu hti htu
  obtain ⟨d, hd, hst, _⟩ := (hT.ty t ti hti).und
  obtain ⟨du, hdu, hsu, _⟩ := (hT.ty u tu htu).und
  have main : ∀ (e : TypeId) (te : TI), d = .slice e → srcTy du → T.ty.get e = some te → te.bytes ≤ 1000000 → ∀ k new, srcCells pc h te.size x = some (k, new) → k ≤ 1000000 → allOne new = true → 0 < te.size →
    ORok P ρ b0 h nx w (do pure (.value (← Builtin.append_ #[t, u] ty #[s.den ρ, x.den ρ]))) (appendTo h nx e te.size k new s) := by
   intro e te hde hsd hte hby k new hsrc hk hone hpos
   subst hde
   exact appendTo_ok hT H hn hd hdu hsd hte hby hpos (src_ok hρ hp hn hlt H hsrc) hk hone hsn
  split
  ·rename_i e f hu1 hu2
   rw [hu1] at hst
   rw [hu2] at hsu
   simp only [StOk] at hst hsu
   split
   ·rename_i te hte
    split
    ·rename_i hby
     split
     ·rename_i k new hsrc
      split
      ·rename_i hk
       split
       ·rename_i hone
        split
        ·trivial
        ·rename_i h0
         split
         ·trivial
         ·exact main e te hst (.inl ⟨f, hsu⟩) hte (Nat.le_of_ble_eq_true hby) k new hsrc (Nat.le_of_ble_eq_true hk) hone (Nat.pos_of_ne_zero (by simpa using h0))
       ·trivial
      ·trivial
     ·trivial
    ·trivial
   ·trivial
  ·rename_i e hu1 hu2
   rw [hu1] at hst
   rw [hu2] at hsu
   simp only [StOk] at hst hsu
   split
   ·rename_i te hte
    split
    ·rename_i hby
     split
     ·rename_i k new hsrc
      split
      ·rename_i hk
       split
       ·rename_i hone
        split
        ·trivial
        ·rename_i h0
         split
         ·trivial
         ·exact main e te hst (.inr hsu) hte (Nat.le_of_ble_eq_true hby) k new hsrc (Nat.le_of_ble_eq_true hk) hone (Nat.pos_of_ne_zero (by simpa using h0))
       ·trivial
      ·trivial
     ·trivial
    ·trivial
   ·trivial
  ·trivial
 ·trivial
theorem symCopy_ok (hT : T.Ok P) (hρ : ρ.Ok) (hp : Holds ρ pc) (H : HeapR ρ b0 h w) (hn : HNames nx h) {t u ty : TypeId} {s x : SV} (hsn : NamesV nx s) :
  ORok P ρ b0 h nx w (do pure (.value (← Builtin.copy_ #[t, u] ty #[s.den ρ, x.den ρ]))) (symCopy T pc h nx t s x) := by
 have hlt : ∀ n o, lk h n = some o → ∀ m ∈ o.names, m < nx := fun n o hl => (hn n o hl).2
 unfold symCopy
 split
 ·rename_i ti hti
  obtain ⟨d, hd, hst, _⟩ := (hT.ty t ti hti).und
  split
  ·rename_i e hu
   rw [hu] at hst
   simp only [StOk] at hst
   subst hst
   split
   ·rename_i te hte
    split
    ·rename_i k new hsrc
     have hs := src_ok (P := P) hρ hp hn hlt H hsrc
     split
     ·rename_i hone
      split
      ·rename_i n off len cap
       exact copyTo_ok hT H hn hd hte hs hone rfl
      ·rename_i n cn sz off len
       split
       ·rename_i hz
        have hz' : sz = te.size := by simpa using hz
        subst hz'
        exact copyTo_ok hT H hn hd hte hs hone rfl
       ·trivial
      ·refine okSame H hn _ ?_ (fun m hm => by cases hm)
       obtain ⟨i, z, hi, hsz, hz, hzc, hib⟩ := (hT.ty _ te hte).info
       have hl := hs.lenOf w
       have hf := hs.first w 0 H (Nat.zero_le _)
       have : (Builtin.copy_ #[t, u] ty #[.slice none 0 0, x.den ρ]).run P w = .ok (goInt 0) w := by
        simp [Builtin.copy_, run_underlying hd, sizeOf, typeInfo, hi, hl, hsz, hf]
       simp only [SV.den]
       rw [Sem.run_bind, this]; rfl
      ·trivial
     ·trivial
    ·trivial
   ·trivial
  ·trivial
 ·trivial
theorem clearAt_ok (hT : T.Ok P) (H : HeapR ρ b0 h w) (hn : HNames nx h) {t ty e : TypeId} {te : TI} (hd : P.underlying t = some (.slice e)) (hte : T.ty.get e = some te) (n off len cap : Nat) (hl : ¬ len = 0) {s : SV} (hs : s.den ρ = .slice (some ⟨ρ.a n, off, none⟩) len cap) :
  ORok P ρ b0 h nx w (do pure (.value (← Builtin.clear_ #[t] ty #[s.den ρ]))) (clearAt h nx n off (reps te.zero len)) := by
 obtain ⟨i, z, hi, hsz, hz, hzc, hib⟩ := (hT.ty _ te hte).info
 unfold clearAt
 split
 ·rename_i o hlk
  split
  ·rename_i cs hcs
   split
   ·rename_i hle
    split
    ·rename_i hone
     obtain ⟨w', hst, hmv⟩ := write_ok (P := P) H hn hlk hcs (Nat.le_of_ble_eq_true hle) hone (fun m hm => by
      have := reps_names _ _ m hm
      rw [(hT.ty _ te hte).zn] at this; cases this)
     refine ⟨ρ, w', _, ?_, .inl rfl, hmv, fun m hm => by cases hm⟩
     have hzz : (Builtin.zeroCells z.cells len).toList = SV.denL ρ (reps te.zero len) := by
      rw [hzc ρ, reps_den]
      have := reps_get (SV.denL ρ te.zero) len
      simp only [Builtin.zeroCells]
      have h2 : (SV.denL ρ te.zero).toArray.size = (SV.denL ρ te.zero).length := by simp
      rw [h2]
      rw [h2] at this
      rw [this]
     rw [Sem.run_bind, hs]
     have : (Builtin.clear_ #[t] ty #[.slice (some ⟨ρ.a n, off, none⟩) len cap]).run P w = .ok (.tuple #[]) w' := by
      obtain ⟨m, rfl⟩ : ∃ m, len = m + 1 := ⟨len - 1, by omega⟩
      simp [Builtin.clear_, run_underlying hd, zeroValue, typeInfo, hi, hz, hzz, hst]
     rw [this]; rfl
    ·trivial
   ·trivial
  ·trivial
 ·trivial
theorem symClear_ok (hT : T.Ok P) (H : HeapR ρ b0 h w) (hn : HNames nx h) {t ty : TypeId} (s : SV) :
  ORok P ρ b0 h nx w (do pure (.value (← Builtin.clear_ #[t] ty #[s.den ρ]))) (symClear T h nx t s) := by
 unfold symClear
 split
 ·rename_i ti hti
  obtain ⟨d, hd, hst, _⟩ := (hT.ty t ti hti).und
  split
  ·rename_i e hu
   rw [hu] at hst
   simp only [StOk] at hst
   subst hst
   split
   ·rename_i te hte
    split
    ·rename_i n off len cap
     split
     ·rename_i q
      have q' : len = 0 := by simpa using q
      subst q'
      refine okSame H hn _ ?_ (fun m hm => by cases hm)
      simp [SV.den, Builtin.clear_, run_underlying hd]
      rfl
     ·rename_i q
      exact clearAt_ok hT H hn hd hte n off len cap (by simpa using q) rfl
    ·rename_i n cn sz off len
     split
     ·rename_i q
      have q' : len = 0 := by simpa using q
      subst q'
      refine okSame H hn _ ?_ (fun m hm => by cases hm)
      simp [SV.den, Builtin.clear_, run_underlying hd]
      rfl
     ·rename_i q
      exact clearAt_ok hT H hn hd hte n (off * sz) len _ (by simpa using q) rfl
    ·refine okSame H hn _ ?_ (fun m hm => by cases hm)
     simp [SV.den, Builtin.clear_, run_underlying hd]
     rfl
    ·trivial
   ·trivial
  ·trivial
 ·trivial
theorem bytesIn_ok (hρ : ρ.Ok) (hp : Holds ρ pc) : ∀ (cs : List SV) (es : List IE), bytesIn pc cs = some es → SV.denL ρ cs = (es.map (IE.den ρ)).map (Value.int .u8)
 | [], es, h => by simp [bytesIn] at h; subst h; rfl
 | v :: l, es, h => by
  unfold bytesIn at h
  split at h
  ·rename_i hh; cases hh
  ·rename_i e l' hh
   cases hh
   split at h
   ·split at h
    ·rename_i es' he
     cases h
     simp [SV.denL, SV.den, bytesIn_ok hρ hp _ _ he]
    ·cases h
   ·cases h
  ·cases h
theorem foldl_bytes : ∀ (l : List Int) (r : ByteArray), l.foldl (fun r n => r.push (UInt8.ofNat n.toNat)) r = ⟨r.data ++ (l.map fun n => UInt8.ofNat n.toNat).toArray⟩
 | [], r => by simp
 | b :: l, r => by
  simp only [List.foldl_cons]
  rw [foldl_bytes l]
  simp [ByteArray.push]
theorem strOf_ok (hT : T.Ok P) (hρ : ρ.Ok) (hp : Holds ρ pc) (H : HeapR ρ b0 h w) (hn : HNames nx h) {src dst e : TypeId} (hs : P.underlying src = some (.slice e)) (he : P.underlying e = some (.int .u8)) (hd : P.underlying dst = some .string) (x : SV) :
  ORok P ρ b0 h nx w (do pure (.value (← convert src dst (x.den ρ)))) (strOf pc h nx x) := by
 have hlt : ∀ n o, lk h n = some o → ∀ m ∈ o.names, m < nx := fun n o hl => (hn n o hl).2
 unfold strOf
 split
 ·refine okSame H hn _ ?_ (fun m hm => by cases hm)
  simp only [SV.den]
  rw [Sem.run_bind, run_convert_bytes_string w src dst e none 0 0 hs he hd]
  simp [Conv.bytesToString, bytesOf]
  rfl
 ·trivial
 ·rename_i hx1 hx2
  split
  ·rename_i k cs hsrc
   split
   ·rename_i es hes
    have hS := src_ok (P := P) hρ hp hn hlt H hsrc
    refine okSame H hn _ ?_ (fun m hm => by cases hm)
    have hf := hS.first w k H (Nat.le_refl _)
    rw [List.take_of_length_le (by rw [hS.len]; exact Nat.le_refl _), bytesIn_ok hρ hp _ _ hes] at hf
    have hl := hS.lenOf w
    have hshape : ∃ a c, x.den ρ = .slice (some a) k c := by
     unfold srcCells at hsrc
     split at hsrc
     ·split at hsrc
      ·split at hsrc
       ·cases hsrc; exact ⟨_, _, rfl⟩
       ·cases hsrc
      ·cases hsrc
     ·split at hsrc
      ·split at hsrc
       ·split at hsrc
        ·cases hsrc; exact ⟨_, _, rfl⟩
        ·cases hsrc
       ·cases hsrc
      ·cases hsrc
     ·exact absurd rfl hx1
     ·exact absurd rfl (hx2 _)
     ·cases hsrc
    obtain ⟨ad, c, hden⟩ := hshape
    rw [hden] at hf ⊢
    simp only [Builtin.firstCells, Nat.mul_one] at hf
    rw [Sem.run_bind, run_convert_bytes_string w src dst e (some ad) k c hs he hd, run_bytesToString w ad k c _ hf, foldl_bytes]
    simp only [SV.den, Result.andThen_ok]
    congr 3
    simp [bytesOf]
   ·trivial
  ·trivial
theorem bytesS_ok (hT : T.Ok P) (hρ : ρ.Ok) (hp : Holds ρ pc) (H : HeapR ρ b0 h w) (hn : HNames nx h) {src dst e : TypeId} (hs : P.underlying src = some .string) (hd : P.underlying dst = some (.slice e)) (he : P.underlying e = some (.int .u8)) (bs : List IE) :
  ORok P ρ b0 h nx w (do pure (.value (← convert src dst ((SV.str bs).den ρ)))) (bytesS pc h nx e bs) := by
 unfold bytesS
 split
 ·rename_i hle
  have hle' := Nat.le_of_ble_eq_true hle
  split
  ·rename_i hb
   have hb' := allByte_ok hρ hp _ hb
   have hr := run_bytes_of_string (P := P) w src dst e (bytesOf (bs.map (IE.den ρ))) hs hd he
   have hsz : (bytesOf (bs.map (IE.den ρ))).size = bs.length := by rw [bytesOf_size]; simp
   rw [hsz] at hr
   have hge := grownCap_ge w bs.length 0 e
   have hcell : bytesRow (bytesOf (bs.map (IE.den ρ))) (grownCap w bs.length 0 e) = (SV.denL ρ (byteVals bs)).toArray ++ Array.replicate (grownCap w bs.length 0 e - bs.length) (.int .u8 0) := by
    unfold bytesRow
    rw [bytes_data bs hb', hsz]
   refine newRow_ok H hn (h0 := h) (fun k p hp => hp) (S := do pure (.value (← convert src dst ((SV.str bs).den ρ)))) (cap := grownCap w bs.length 0 e) (rest := Array.replicate (grownCap w bs.length 0 e - bs.length) (.int .u8 0)) (lo := (bytesRow (bytesOf (bs.map (IE.den ρ))) (grownCap w bs.length 0 e)).size) (hi := (bytesRow (bytesOf (bs.map (IE.den ρ))) (grownCap w bs.length 0 e)).size + 1) (w' := w.drew.alloc (.cells (bytesRow (bytesOf (bs.map (IE.den ρ))) (grownCap w bs.length 0 e)) e ((bytesRow (bytesOf (bs.map (IE.den ρ))) (grownCap w bs.length 0 e)).size, (bytesRow (bytesOf (bs.map (IE.den ρ))) (grownCap w bs.length 0 e)).size + 1))) ⟨w.drew, drewN_heap H, rfl, ?_, rfl, rfl, rfl, rfl⟩ (by rw [Sem.run_bind]; simp only [SV.den]; rw [hr]; rfl) ?_ ?_ (grownCap_le_maxLen w bs.length 0 e (by simp [maxLen]; omega)) (by decide) (by simp [byteVals_names])
   ·show w.drew.heap.push _ = _
    rw [hcell]
   ·right
    rw [hcell]
    simp [denL_length, byteVals_length]
   ·simp [byteVals_length]; omega
  ·trivial
 ·trivial
theorem convSame_ok (H : HeapR ρ b0 h w) (hn : HNames nx h) {t e : TypeId} (hs : P.underlying t = some (.slice e)) (he : P.underlying e = some (.int .u8)) (x : SV) :
  ORok P ρ b0 h nx w (do pure (.value (← convert t t (x.den ρ)))) (convSame h nx x) := by
 unfold convSame
 split
 ·rename_i n off len cap
  split
  ·rename_i cs u hlk
   split
   ·rename_i q0
    split
    ·rename_i q1
     split
     ·rename_i q2
      have q0' : off = 0 := by simpa using q0
      have q1' : cap = cs.length := by simpa using q1
      have q2' := Nat.le_of_ble_eq_true q2
      subst q0'
      obtain ⟨obj, ho, hR⟩ := H.at_ n _ hlk
      have hR' : obj = .cells (SV.denL ρ cs).toArray u (0, 0) := hR
      subst hR'
      have hlt := H.lt hlk
      have hcsn : ∀ m ∈ SV.namesL cs, m < nx := fun m hm => (hn n _ hlk).2 m (by simp [SObj.names, hm])
      have g := ρ.set2_agr nx (ρ.a n) cap
      have hold : SV.denL (ρ.set2 nx (ρ.a n) cap) cs = SV.denL ρ cs := SV.denL_agr g cs (fun m hm => .inl (hcsn m hm))
      have hsz : (SV.denL ρ cs).toArray.size = cs.length := by simp [denL_length]
      have hfz : w.freeze ⟨ρ.a n, cs.length, none⟩ 1 = World.putO w (ρ.a n) (.cells (SV.denL ρ cs).toArray u (cs.length, cs.length + 1)) := by
       unfold World.freeze World.putO
       rw [if_neg (by decide)]
       congr 1
       apply Array.ext
       ·simp
       ·intro i h1 h2
        simp only [Array.getElem_modify, Array.getElem_setIfInBounds]
        split
        ·rename_i hi
         subst hi
         have : w.heap[ρ.a n] = .cells (SV.denL ρ cs).toArray u (0, 0) := (Array.getElem?_eq_some_iff.1 ho).2
         simp [this]
        ·rename_i hi
         exact (Array.getElem_setIfInBounds_ne (by simpa using h1) hi).symm
      have hsh : w.shape? (ρ.a n) = some (u, cs.length) := by
       unfold World.shape?
       rw [ho]
       simp [denL_length]
      have hrun : (convert t t (.slice (some ⟨ρ.a n, 0, none⟩) len cap)).run P w = .ok (.slice (some ⟨ρ.a n, 0, none⟩) len cap) (World.putO w (ρ.a n) (.cells (SV.denL ρ cs).toArray u (cs.length, cs.length + 1))) := by
       simp [convert, run_underlying hs, run_underlying he, markStringish, hsh, hfz]
      refine ⟨ρ.set2 nx (ρ.a n) cap, World.putO w (ρ.a n) (.cells (SV.denL ρ cs).toArray u (cs.length, cs.length + 1)), .value (.slice (some ⟨ρ.a n, 0, none⟩) len cap), ?_, .inl ?_, Move.row (h0 := rmH n h) H hn ?_ ?_ ?_ (.inr ⟨n, _, hlk, rfl, by rw [lk_rmH]; simp⟩) (obj := .cells (SV.denL ρ cs).toArray u (cs.length, cs.length + 1)) ?_ ?_ ?_ ?_ ?_, ?_⟩
      ·rw [Sem.run_bind]
       simp only [SV.den]
       rw [hrun]; rfl
      ·simp [SV.den, Rho.set2_a, Rho.set2_c]
      ·intro m p hp
       rw [lk_rmH] at hp
       split at hp
       ·cases hp
       ·exact hp
      ·refine ⟨⟨H.g0.os, H.g0.tape, H.g0.output, by simp [World.putO, H.g0.size], fun k hk hne => ?_⟩, H.g0.dr⟩
       have := H.own n _ hlk
       rw [← H.g0.block k hk hne]
       simp only [World.putO]
       rw [Array.getElem?_setIfInBounds_ne (by omega)]
      ·simp [World.putO]
      ·simp [World.putO, hlt]
      ·intro k p hp
       rw [lk_rmH] at hp
       split at hp
       ·cases hp
       ·rename_i hne
        have : ρ.a n ≠ ρ.a k := fun e => hne (H.inj n k _ p hlk hp e).symm
        simp only [World.putO]
        rw [Array.getElem?_setIfInBounds_ne this]
      ·intro k hk hne
       simp only [World.putO]
       rw [Array.getElem?_setIfInBounds_ne (hne n _ hlk)]
      ·refine ⟨#[], cs.length, cs.length + 1, by rw [hold]; simp, .inr (by simp), by rw [Rho.set2_c]; simp [q1'], by rw [Rho.set2_c]; simp [maxLen]; omega, by decide⟩
      ·intro m hm
       simp only [SObj.names, List.mem_cons] at hm
       rcases hm with rfl | hm
       ·omega
       ·have := hcsn m hm; omega
      ·intro m hm
       simp only [SV.names, List.mem_cons, List.not_mem_nil, or_false] at hm
       omega
     ·trivial
    ·trivial
   ·trivial
  ·trivial
 ·trivial
theorem conv_ok (hT : T.Ok P) (hρ : ρ.Ok) (hp : Holds ρ pc) (H : HeapR ρ b0 h w) (hn : HNames nx h) (hsl : SlotsR ρ sl a.tmps) (src dst : TypeId) (x : Operand) :
  ORok P ρ b0 h nx w (do pure (.value (← convert src dst (a.eval x)))) (opConv T pc h nx sl src dst x) := by
 unfold opConv
 split
 ·rename_i ts td hts htd
  obtain ⟨ds, hds, hss, _⟩ := (hT.ty src ts hts).und
  obtain ⟨dd, hdd, hsd, _⟩ := (hT.ty dst td htd).und
  split
  ·rename_i hu1 hu2
   rw [hu1] at hss
   rw [hu2] at hsd
   simp only [StOk] at hss hsd
   subst hss; subst hsd
   split
   ·rename_i bs he
    refine okSame H hn _ ?_ (fun m hm => by cases hm)
    rw [ev_den hsl x, he]
    simp [SV.den, convert, run_underlying hds, run_underlying hdd]
   ·trivial
  ·rename_i e hu1 hu2
   rw [hu1] at hss
   rw [hu2] at hsd
   simp only [StOk] at hss hsd
   subst hss; subst hsd
   split
   ·rename_i te bs hte he
    split
    ·rename_i hu3
     obtain ⟨de, hde, hse, _⟩ := (hT.ty e te hte).und
     rw [hu3] at hse
     simp only [StOk] at hse
     subst hse
     rw [ev_den hsl x, he]
     exact bytesS_ok hT hρ hp H hn hds hdd hde bs
    ·trivial
   ·trivial
  ·rename_i e hu1 hu2
   rw [hu1] at hss
   rw [hu2] at hsd
   simp only [StOk] at hss hsd
   subst hss; subst hsd
   split
   ·rename_i te hte
    split
    ·rename_i hu3
     obtain ⟨de, hde, hse, _⟩ := (hT.ty e te hte).und
     rw [hu3] at hse
     simp only [StOk] at hse
     subst hse
     rw [ev_den hsl x]
     exact strOf_ok hT hρ hp H hn hds hde hdd _
    ·trivial
   ·trivial
  ·rename_i e e2 hu1 hu2
   rw [hu1] at hss
   simp only [StOk] at hss
   subst hss
   split
   ·rename_i q
    have q' : src = dst := by simpa using q
    subst q'
    split
    ·rename_i te hte
     split
     ·rename_i hu3
      obtain ⟨de, hde, hse, _⟩ := (hT.ty e te hte).und
      rw [hu3] at hse
      simp only [StOk] at hse
      subst hse
      rw [ev_den hsl x]
      exact convSame_ok H hn hds hde _
     ·trivial
    ·trivial
   ·trivial
  ·exact convI_ok hT hρ hp H hn hsl src dst x
 ·trivial
end
end Go.Proofs.Ythenenacmiiphaa.Sx
namespace Go.Proofs.Ythenenacmiiphaa.Sx
open Go
section
variable {P : Program} {T : Tab} {ρ : Rho} {b0 : World} {pc : List BE} {h : SHeap} {nx : Nat} {w : World} {sl : Slots} {a : Act} {S : Sem Next}
structure SrcL (P : Program) (ρ : Rho) (b0 : World) (h : SHeap) (sz : Nat) (v : Value) (s : LSrc) : Prop where
 len : s.len.den ρ = ((s.l.den ρ).length : Int)
 ty : ∀ ks, s.ks = some ks → Typed ks (s.l.den ρ) ∧ ks.length = sz
 no : s.ks = none → s.l.den ρ = []
 lenOf : ∀ w, (Builtin.lenOf v).run P w = .ok (s.l.den ρ).length w
 first : ∀ (w : World) (n : Nat), HeapR ρ b0 h w → n ≤ (s.l.den ρ).length → (Builtin.firstCells sz n v).run P w = .ok ((s.l.den ρ).flatten.take (n * sz)).toArray w
theorem SrcL.all {v : Value} {s : LSrc} {sz : Nat} (h1 : SrcL P ρ b0 h sz v s) {w : World} (H : HeapR ρ b0 h w) : (Builtin.firstCells sz (s.l.den ρ).length v).run P w = .ok ((s.l.den ρ).flatten).toArray w := by
 have := h1.first w _ H (Nat.le_refl _)
 rw [List.take_of_length_le] at this
 ·exact this
 ·cases hk : s.ks with
  | none => rw [h1.no hk]; simp
  | some ks =>
   obtain ⟨a1, a2⟩ := h1.ty ks hk
   rw [flat_len a1, a2]; exact Nat.le_refl _
theorem kindsOf_length : ∀ {vs : List SV} {ks : List CK}, kindsOf vs = some ks → ks.length = vs.length
 | [], ks, h => by simp only [kindsOf, Option.some.injEq] at h; subst h; rfl
 | v :: vs, ks, h => by
  unfold kindsOf at h
  split at h <;> first
   | (cases h; done)
   | (rename_i q; cases q; done)
   | skip
  all_goals
   rename_i q
   cases q
   split at h
   ·rename_i k hk
    cases h
    simp [kindsOf_length hk]
   ·cases h
theorem first_some {l : LV} {ks : List CK} {sz : Nat} (ht : Typed ks l) (hks : ks.length = sz) {b o len cap : Nat} {w : World} (hc : ∀ (i c : Nat) (e : List Value) (v : Value), l[i]? = some e → e[c]? = some v → w.cell? ⟨b, o + i * sz + c, none⟩ = some v) {n : Nat} (hn : n ≤ l.length) :
  (Builtin.firstCells sz n (.slice (some ⟨b, o, none⟩) len cap)).run P w = .ok (l.flatten.take (n * sz)).toArray w := by
 have hle : n * sz ≤ l.length * sz := Nat.mul_le_mul_right _ hn
 have hfl : l.flatten.length = l.length * sz := by rw [flat_len ht, hks]
 refine run_firstCells_some (P := P) w sz n ⟨b, o, none⟩ len cap (l.flatten.take (n * sz)) (by rw [List.length_take, hfl]; omega) ?_
 intro j v hj
 rw [List.getElem?_take] at hj
 split at hj
 ·rename_i hjn
  have hpos : 0 < sz := by
   rcases Nat.eq_zero_or_pos sz with h0 | h0
   ·rw [h0] at hjn; simp at hjn
   ·exact h0
  have hi : j / sz < l.length := (Nat.div_lt_iff_lt_mul hpos).2 (by omega)
  have hm : j % sz < sz := Nat.mod_lt _ hpos
  have hdm := Nat.div_add_mod j sz
  have he := List.getElem?_eq_getElem hi
  have hg := flat_get ht he (c := j % sz) (by rw [hks]; exact hm)
  have hj2 : j / sz * sz + j % sz = j := by rw [Nat.mul_comm]; exact hdm
  rw [hks, hj2, hj] at hg
  have := hc (j / sz) (j % sz) _ v he hg.symm
  rw [addr_add]
  rw [Nat.add_assoc, hj2] at this
  exact this
 ·cases hj
theorem win_get {l : LV} {o n i : Nat} {e : List Value} (h : ((l.drop o).take n)[i]? = some e) : l[o + i]? = some e := by
 rw [List.getElem?_take] at h
 split at h
 ·rw [List.getElem?_drop] at h; exact h
 ·cases h
theorem ifs {α : Type} {a : Bool} {b : Option α} {x : α} (h : (if a then b else none) = some x) : a = true ∧ b = some x := by
 cases a <;> simp_all
theorem srcRom_ok (hρ : ρ.Ok) (hp : Holds ρ pc) {roms : Roms} (hrom : RomsOk roms b0 ρ) {sz r : Nat} {off len : IE} {s : LSrc} (hs : srcRom roms pc sz r (resI pc off) len = some s) : ∃ ks, lk roms r = some (sz, ks) ∧ s.len = len ∧ s.ks = some ks ∧ 0 ≤ off.den ρ ∧ 0 ≤ len.den ρ ∧ off.den ρ + len.den ρ ≤ ((ρ.z.rl r).length : Int) ∧ s.l.den ρ = ((ρ.z.rl r).drop (off.den ρ).toNat).take (len.den ρ).toNat := by
 have hoff := resI_den hρ hp off
 unfold srcRom at hs
 split at hs
 ·rename_i esz ks hr
  obtain ⟨r0, r1, r2, r3, r4, r5⟩ := hrom.2 r esz ks hr
  split at hs
  ·rename_i hz
   have hz' : esz = sz := by simpa using hz
   subst hz'
   split at hs
   ·rename_i l hl
    split at hs
    ·rename_i d1 d2
     cases hs
     have g1 := dec_le hρ hp d1
     have g2 := dec_le hρ hp d2
     rw [lit_den] at g1
     simp only [IE.den, LE.den, lenV] at g2
     unfold endW at hl
     split at hl
     ·rename_i q l' m p n e1
      obtain ⟨h1, hl⟩ := ifs hl
      obtain ⟨h2, hl⟩ := ifs hl
      obtain ⟨h3, hl⟩ := ifs hl
      obtain ⟨h4, hl⟩ := ifs hl
      cases hl
      have k1 : q = r := by simpa using h1
      have k2 : p = r := by simpa using h2
      have k3 := IE.beq_eq _ _ h3
      have k4 := IE.beq_eq _ _ h4
      subst k1; subst k2; subst k3; subst k4
      rw [e1] at hoff
      replace hoff : off.den ρ = if (ρ.z.rc p : Int) = l.den ρ then 0 else l.den ρ := by
       rw [← hoff]
       simp only [IE.den, BE.den]
       by_cases c : (ρ.z.rc p : Int) = l.den ρ <;> simp [c]
      have hlen : (IE.sub (.len (.rom p)) l).den ρ = ((ρ.z.rl p).length : Int) - l.den ρ := by simp only [IE.den, LE.den, lenV]
      refine ⟨ks, hr, rfl, rfl, ?_, ?_, ?_, ?_⟩
      ·rw [hoff]; split <;> omega
      ·rw [hlen]; omega
      ·rw [hlen, hoff]; split <;> omega
      ·rw [hlen, dropE_den]
       simp only [LE.den]
       by_cases c : (ρ.z.rc p : Int) = l.den ρ
       ·rw [if_pos c] at hoff
        have e : ((ρ.z.rl p).length : Int) - l.den ρ = 0 := by omega
        rw [e, List.drop_of_length_le (by omega)]
        simp
       ·rw [if_neg c] at hoff
        rw [hoff, List.take_of_length_le (by rw [List.length_drop]; omega)]
     ·cases hl
    ·cases hs
   ·split at hs
    ·rename_i d1 d2 d3
     cases hs
     have g1 := dec_le hρ hp d1
     have g2 := dec_le hρ hp d2
     have g3 := dec_le hρ hp d3
     rw [lit_den, resI_den hρ hp] at g1
     rw [lit_den] at g2
     rw [addE_den, resI_den hρ hp] at g3
     simp only [IE.den, LE.den, lenV] at g3
     refine ⟨ks, hr, rfl, rfl, g1, g2, g3, ?_⟩
     rw [winL_den (by simp only [IE.den, LE.den, lenV]), resI_den hρ hp]; simp only [LE.den]
    ·cases hs
  ·cases hs
 ·cases hs
theorem srcL_ok (hρ : ρ.Ok) (hp : Holds ρ pc) (hn : HNames nx h) (hrom : RomsOk T.orac.rom b0 ρ) (Hw : HeapR ρ b0 h w) {sz : Nat} {x : SV} {s : LSrc} (hs : srcL T.orac.rom pc h sz x = some s) : SrcL P ρ b0 h sz (x.den ρ) s := by
  have hlt : ∀ n o, lk h n = some o → ∀ m ∈ o.names, m < nx := fun n o hl => (hn n o hl).2
  unfold srcL at hs
  split at hs
  · rename_i r off len cap
    obtain ⟨ks, hr, e1, e2, g1, g2, g3, hw⟩ := srcRom_ok hρ hp hrom hs
    obtain ⟨r0, r1, r2, r3, r4, r5⟩ := hrom.2 r sz ks hr
    obtain ⟨s1, s2, s3⟩ := s
    simp only at e1 e2 hw
    subst e1; subst e2
    have hl : (((ρ.z.rl r).drop (off.den ρ).toNat).take (s1.den ρ).toNat).length = (s1.den ρ).toNat := by simp; omega
    refine ⟨?_, ?_, (fun hh => by cases hh), fun w => ?_, fun w n H hnl => ?_⟩
    · show s1.den ρ = _; rw [hw, hl]; omega
    · intro ks' hk; cases hk; show Typed ks _ ∧ _; rw [hw]; exact ⟨(r2.drop _).take _, r0⟩
    · show _ = Result.ok (List.length (LE.den ρ _)) w; rw [hw, hl]; simp [Builtin.lenOf, SV.den]
    · show _ = Result.ok (List.take _ (List.flatten (LE.den ρ _))).toArray w
      rw [hw]
      have hnl' : n ≤ (s1.den ρ).toNat := by rw [← hl, ← hw]; exact hnl
      by_cases h0 : 0 < (ρ.z.rl r).length
      · obtain ⟨q1, _⟩ := r3 h0
        simp only [SV.den, q1, Option.map_some, addr_add', r1]
        exact first_some ((r2.drop _).take _) r0 (fun i c e v he hv => by
          have := rom_cell hrom H.g0 hr (win_get he) hv
          rw [Nat.add_mul, ← Nat.add_assoc] at this
          exact this) (by rw [hl]; exact hnl')
      · have hz0 : n = 0 := by omega
        subst hz0
        cases hra : ρ.z.ra r with
        | none => simp [SV.den, hra, Builtin.firstCells]
        | some ad => simp [SV.den, hra, Builtin.firstCells, loadCells, loadCellsFrom]
  · rename_i n cn z off len cap
    unfold srcRow at hs
    split at hs
    · rename_i c tot ks u dn zs hlk
      obtain ⟨obj, ho, rest, lo, hi, rfl, _, _, _, _, hks, ht, htot⟩ := Hw.at_ n _ hlk
      split at hs
      · rename_i hcn
        split at hs
        · rename_i hz1
          split at hs
          · rename_i hz2
            have hz1' : zs = z := by simpa using hz1
            have hz2' : zs = sz := by simpa using hz2
            subst hz1'; subst hz2'
            split at hs
            · rename_i d1 d2 d3
              cases hs
              have g1 := dec_le hρ hp d1
              have g2 := dec_le hρ hp d2
              have g3 := dec_le hρ hp d3
              rw [lit_den, resI_den hρ hp] at g1
              rw [lit_den] at g2
              rw [addE_den, resI_den hρ hp, htot] at g3
              have hw : (winL c tot (resI pc off) len).den ρ = ((c.den ρ).drop (off.den ρ).toNat).take (len.den ρ).toNat := by
                rw [winL_den htot, resI_den hρ hp]
              have hl : (((c.den ρ).drop (off.den ρ).toNat).take (len.den ρ).toNat).length = (len.den ρ).toNat := by simp; omega
              refine ⟨?_, ?_, (fun hh => by cases hh), fun w => ?_, fun w m H hnl => ?_⟩
              · show len.den ρ = _; rw [hw, hl]; omega
              · intro ks' hk; cases hk; show Typed ks _ ∧ _; rw [hw]; exact ⟨(ht.drop _).take _, hks⟩
              · show _ = Result.ok (List.length (LE.den ρ _)) w; rw [hw, hl]; simp [Builtin.lenOf, SV.den]
              · show _ = Result.ok (List.take _ (List.flatten (LE.den ρ _))).toArray w
                rw [hw]
                have hnl' : m ≤ (len.den ρ).toNat := by rw [← hl, ← hw]; exact hnl
                simp only [SV.den]
                exact first_some ((ht.drop _).take _) hks (fun i c e v he hv => by
                  have := rowl_cell H hlk (win_get he) hv
                  rw [Nat.add_mul] at this
                  exact this) (by rw [hl]; exact hnl')
            · cases hs
          · cases hs
        · cases hs
      · cases hs
    · cases hs
  · rename_i l
    split at hs
    · rename_i hz
      have hz' : sz = 1 := by simpa using hz
      subst hz'
      split at hs
      · rename_i htb
        cases hs
        have hty := typedB_ok hρ hp hrom.typed _ htb
        refine ⟨by show (lenE pc l).den ρ = _; rw [lenE_den hρ hp], ?_, (fun hh => by cases hh), fun w => ?_, fun w n H hnl => ?_⟩
        · intro ks hk; cases hk; exact ⟨hty, rfl⟩
        · simp [Builtin.lenOf, SV.den, byteL_size]
        · simp only [Builtin.firstCells, SV.den, Nat.mul_one]
          have key : ((byteL (l.den ρ)).data.map (fun b => Value.int .u8 b.toNat)) = (l.den ρ).flatten.toArray := by
            have : ∀ m : LV, Typed byteK m → (byteL m).data.map (fun b => Value.int .u8 b.toNat) = m.flatten.toArray := by
              intro m hm
              have h2 : (m.map fun c => intV (c.headD (.bool false))).map (Value.int .u8) = m.flatten ∧ ∀ x ∈ (m.map fun c => intV (c.headD (.bool false))), 0 ≤ x ∧ x ≤ 255 := by
                induction m with
                | nil => exact ⟨rfl, fun x hx => by cases hx⟩
                | cons e m ih =>
                  obtain ⟨n, rfl, h0, h1⟩ := conf_byte_inv (hm e (List.mem_cons_self ..))
                  obtain ⟨i1, i2⟩ := ih (fun x hx => hm x (List.mem_cons_of_mem _ hx))
                  refine ⟨?_, ?_⟩
                  · rw [List.map_cons, List.map_cons, i1]; rfl
                  · intro x hx
                    rw [List.map_cons] at hx
                    rcases List.mem_cons.1 hx with rfl | hx
                    · exact ⟨h0, h1⟩
                    · exact i2 x hx
              obtain ⟨h3, h4⟩ := h2
              unfold byteL bytesOf
              apply Array.ext'
              rw [← h3]
              simp only [List.map_toArray, List.map_map]
              apply List.map_congr_left
              intro e he
              obtain ⟨q0, q1⟩ := h4 _ (List.mem_map_of_mem he)
              simp only [Function.comp]
              rw [byte_back q0 q1]
            exact this _ hty
          have e1 : ((byteL (l.den ρ)).extract 0 n).data.map (fun b => Value.int .u8 b.toNat) = ((byteL (l.den ρ)).data.map (fun b => Value.int .u8 b.toNat)).extract 0 n := by
            rw [ByteArray.data_extract]
            apply Array.ext'
            simp
          rw [e1, key]
          have e2 : ((l.den ρ).flatten.toArray).extract 0 n = ((l.den ρ).flatten.take n).toArray := by
            apply Array.ext'
            simp
          rw [e2]; rfl
      · cases hs
    · cases hs
  · cases hs
    refine ⟨by simp [IE.den, LE.den], (fun ks hk => by cases hk), (fun _ => by simp only [LE.den]), fun w => by simp [Builtin.lenOf, SV.den, LE.den], fun w n H hnl => ?_⟩
    simp [Builtin.firstCells, SV.den, LE.den]
  · cases hs
    refine ⟨by simp [IE.den, LE.den], (fun ks hk => by cases hk), (fun _ => by simp only [LE.den]), fun w => by simp [Builtin.lenOf, SV.den, LE.den], fun w n H hnl => ?_⟩
    simp only [LE.den, List.length_nil] at hnl
    have hz0 : n = 0 := by omega
    subst hz0
    simp [Builtin.firstCells, SV.den, LE.den, loadCells, loadCellsFrom]
  · split at hs
    · rename_i k cs hsrc
      have hS := src_ok (P := P) hρ hp hn hlt Hw hsrc
      split at hs
      · cases hs
        refine ⟨by simp [IE.den, LE.den], (fun ks hk => by cases hk), (fun _ => by simp only [LE.den]), fun w => by rw [hS.lenOf w]; simp [LE.den], fun w n H hnl => ?_⟩
        simp only [LE.den, List.length_nil] at hnl
        have hz0 : n = 0 := by omega
        subst hz0
        rw [hS.first w 0 H (Nat.zero_le _)]; simp [LE.den, SV.denL]
      · rename_i hk0
        split at hs
        · rename_i ks hks
          split at hs
          · rename_i l hl
            cases hs
            obtain ⟨q1, q2, q3⟩ := rowsL_ok hρ hp hrom.typed k cs l hS.len hl
            refine ⟨by simp [IE.den, q1], ?_, (fun hh => by cases hh), fun w => by rw [hS.lenOf w, q1], fun w n H hnl => ?_⟩
            · intro ks' hk; cases hk
              refine ⟨q3, ?_⟩
              rw [kindsOf_length hks, List.length_take, hS.len]
              have : 1 * sz ≤ k * sz := Nat.mul_le_mul_right _ (Nat.pos_of_ne_zero (fun hq => hk0 hq))
              omega
            · rw [q1] at hnl
              rw [hS.first w n H hnl, q2, denL_take]
          · cases hs
        · cases hs
    · cases hs
theorem newRowL_ok (H : HeapR ρ b0 h w) (hn : HNames nx h) {h0 : SHeap} (hsub : ∀ k p, lk h0 k = some p → lk h k = some p) {S : Sem Next} {c : LE} {tot len : IE} {ks : List CK} {e : TypeId} {sz cap : Nat} {rest : Array Value} {lo hi : Nat} {w' : World} (hw : ∃ wd : World, HeapR ρ b0 h wd ∧ wd.heap = w.heap ∧ w'.heap = wd.heap.push (.cells ((c.den ρ).flatten.toArray ++ rest) e (lo, hi)) ∧ w'.os = wd.os ∧ w'.tape = wd.tape ∧ w'.output = wd.output ∧ w'.drawn = wd.drawn)
  (hr : S.run P w = .ok (.value (.slice (some ⟨w.heap.size, 0, none⟩) (len.den ρ).toNat cap)) w') (hfz : hi ≤ lo ∨ (c.den ρ).flatten.length + rest.size ≤ lo) (hcap : (c.den ρ).flatten.length + rest.size = cap * sz) (hmax : cap ≤ maxLen) (hpos : 0 < sz)
  (hks : ks.length = sz) (ht : Typed ks (c.den ρ)) (htot : tot.den ρ = ((c.den ρ).length : Int)) :
  ORok P ρ b0 h nx w S (newRowL h0 nx c tot ks e sz len) := by
 obtain ⟨wd, Hd, e1, e2, e3, e4, e5, e6⟩ := hw
 have g := ρ.set2_agr nx w.heap.size cap
 refine ⟨ρ.set2 nx w.heap.size cap, w', _, hr, .inl ?_, Move.row H hn hsub ?_ ?_ (.inl (Nat.le_refl _)) (obj := .cells ((c.den ρ).flatten.toArray ++ rest) e (lo, hi)) ?_ ?_ ?_ ?_ ?_, ?_⟩
 ·simp [SV.den, Rho.set2_a, Rho.set2_c, capDen, IE.den_agr g, IE.den]
 ·refine ⟨⟨e3.trans Hd.g0.os, e4.trans Hd.g0.tape, e5.trans Hd.g0.output, by rw [e2]; simp; exact Nat.le_succ_of_le Hd.g0.size, fun k hk hne => ?_⟩, by rw [e6]; exact Hd.g0.dr⟩
  have := Hd.g0.size
  rw [e2, Array.getElem?_push_lt (by omega), ← Array.getElem?_eq_getElem]
  exact Hd.g0.block k hk hne
 ·rw [e2, e1]; simp
 ·rw [e2, e1]; simp
 ·intro k p hp
  have := H.lt (hsub k p hp)
  rw [e2, e1, Array.getElem?_push_lt this, ← Array.getElem?_eq_getElem]
 ·intro k hk _
  rw [e2, e1, Array.getElem?_push_lt hk, ← Array.getElem?_eq_getElem]
 ·refine ⟨rest, lo, hi, by rw [LE.den_agr g], by rw [LE.den_agr g]; exact hfz, by rw [LE.den_agr g, Rho.set2_c]; exact hcap, by rw [Rho.set2_c]; exact hmax, hpos, hks, by rw [LE.den_agr g]; exact ht, by rw [LE.den_agr g, IE.den_agr g]; exact htot⟩
 ·intro m hm
  simp only [SObj.names, List.mem_cons, List.not_mem_nil, or_false] at hm
  omega
 ·intro m hm
  simp only [SV.names, List.mem_cons, List.not_mem_nil, or_false] at hm
  omega
theorem ksTwo_ok {a b : Option (List CK)} {ks : List CK} (h : ksTwo a b = some ks) : (a = none ∨ a = some ks) ∧ (b = none ∨ b = some ks) := by
 unfold ksTwo at h
 split at h
 ·cases h; exact ⟨.inl rfl, .inr rfl⟩
 ·cases h; exact ⟨.inr rfl, .inl rfl⟩
 ·split at h
  ·rename_i hq
   cases h
   exact ⟨.inr rfl, .inr (by rw [ksEq_eq _ _ hq])⟩
  ·cases h
 ·cases h
theorem SrcL.typed {v : Value} {s : LSrc} {sz : Nat} {ks : List CK} (h1 : SrcL P ρ b0 h sz v s) (hk : s.ks = none ∨ s.ks = some ks) : Typed ks (s.l.den ρ) := by
 rcases hk with hk | hk
 ·rw [h1.no hk]; exact .nil _
 ·exact (h1.ty ks hk).1
theorem growL_ok (hT : T.Ok P) (hρ : ρ.Ok) (hp : Holds ρ pc) (H : HeapR ρ b0 h w) (hn : HNames nx h) {h0 : SHeap} (hsub : ∀ k p, lk h0 k = some p → lk h k = some p) {t u ty e : TypeId} {te : TI} {du : TypeDesc} (ht : P.underlying t = some (.slice e)) (hu : P.underlying u = some du) (hd : srcTy du) (hte : T.ty.get e = some te)
  (hby : te.bytes ≤ 1000000) (hpos : 0 < te.size) {x : Value} {xs : LSrc} (hx : SrcL P ρ b0 h te.size x xs) {o : LSrc} {base : Option Addr} {sLen sCap : Nat} (ho : SrcL P ρ b0 h te.size (.slice base sLen sCap) o) (hol : (o.l.den ρ).length = sLen) (hroom : ¬ sLen + (xs.l.den ρ).length ≤ sCap) :
  ORok P ρ b0 h nx w (do pure (.value (← Builtin.append_ #[t, u] ty #[.slice base sLen sCap, x]))) (growL pc h0 nx e te.size o xs) := by
 obtain ⟨i, z, hi, hsz, hz, hzc, hib⟩ := (hT.ty _ te hte).info
 have hzl := (hT.ty _ te hte).zl
 have hzs : z.cells.size = te.size := by rw [hzc ρ]; simp [denL_length, hzl]
 have hdrew : HeapR ρ b0 h w.drew := drewN_heap H
 unfold growL
 split
 ·rename_i ks hks
  obtain ⟨k1, k2⟩ := ksTwo_ok hks
  have t1 := ho.typed k1
  have t2 := hx.typed k2
  split
  ·rename_i hkl
   have hkl' : ks.length = te.size := by simpa using hkl
   split
   ·rename_i hd1
    have hle := dec_le hρ hp hd1
    rw [addE_den, ho.len, hx.len, lit_den] at hle
    have hold := ho.all hdrew
    have hnew := hx.all hdrew
    rw [hol] at hold
    rw [← hsz] at hold hnew
    have hfit : Builtin.nextslicecap (sLen + (xs.l.den ρ).length) sCap * i.bytes ≤ 281474976710656 := by
     refine growslice_fits (by omega) ?_
     have : (sLen + (xs.l.den ρ).length) * i.bytes ≤ 1000000 * 1000000 := Nat.mul_le_mul (by omega) (by omega)
     omega
    have hr := append_grow (ty := ty) ht hu hd hi hz (hx.lenOf w) hold hnew hroom (by omega) hfit
    have hge := grownCap_ge w (sLen + (xs.l.den ρ).length) sCap e
    have hmx := grownCap_le_maxLen w (sLen + (xs.l.den ρ).length) sCap e (by simp [maxLen]; omega)
    have hcat : (catE o.l xs.l).den ρ = o.l.den ρ ++ xs.l.den ρ := catE_den _ _
    have hcl : ((catE o.l xs.l).den ρ).length = sLen + (xs.l.den ρ).length := by rw [hcat, List.length_append, hol]
    have hal : (addE o.len xs.len).den ρ = ((sLen + (xs.l.den ρ).length : Nat) : Int) := by rw [addE_den, ho.len, hx.len, hol]; omega
    have htc : Typed ks ((catE o.l xs.l).den ρ) := by rw [hcat]; exact t1.app t2
    refine newRowL_ok H hn hsub (cap := grownCap w (sLen + (xs.l.den ρ).length) sCap e) (rest := Builtin.zeroCells z.cells (grownCap w (sLen + (xs.l.den ρ).length) sCap e - (sLen + (xs.l.den ρ).length))) (lo := 0) (hi := 0) (w' := w.drew.alloc (.cells ((o.l.den ρ).flatten.toArray ++ (xs.l.den ρ).flatten.toArray ++ Builtin.zeroCells z.cells (grownCap w (sLen + (xs.l.den ρ).length) sCap e - (sLen + (xs.l.den ρ).length))) e))
     ⟨w.drew, hdrew, rfl, ?_, rfl, rfl, rfl, rfl⟩ ?_ (.inl (Nat.le_refl _)) ?_ hmx hpos hkl' htc (by rw [hal, hcl])
    ·show w.drew.heap.push _ = _
     rw [hcat]; simp
    ·rw [Sem.run_bind, hr, hal]; rfl
    ·rw [flat_len htc, hcl, hkl', size_zeroCells, hzs, ← Nat.add_mul]
     congr 1; omega
   ·trivial
  ·trivial
 ·trivial
theorem append_zero {t u ty e : TypeId} {i : TypeInfo} {x : Value} {du : TypeDesc} {base : Option Addr} {sLen sCap : Nat} (ht : P.underlying t = some (.slice e)) (hu : P.underlying u = some du) (hd : srcTy du) (hi : P.info? e = some i)
  (hlen : (Builtin.lenOf x).run P w = .ok 0 w) (hnew : (Builtin.firstCells i.size 0 x).run P w = .ok #[] w) (hle : sLen ≤ sCap) :
  (Builtin.append_ #[t, u] ty #[.slice base sLen sCap, x]).run P w = .ok (.slice base sLen sCap) w := by
 rcases hd with ⟨e', rfl⟩ | rfl <;> cases base <;>
  simp [Builtin.append_, run_underlying ht, run_underlying hu, sizeOf, typeInfo, hi, hlen, hnew, hle, storeCells]
theorem SrcL.zero {v : Value} {s : LSrc} {sz : Nat} (h1 : SrcL P ρ b0 h sz v s) (H : HeapR ρ b0 h w) (hz : s.len.den ρ ≤ 0) : (s.l.den ρ).length = 0 ∧ (Builtin.lenOf v).run P w = .ok 0 w ∧ (Builtin.firstCells sz 0 v).run P w = .ok #[] w := by
 have hl := h1.len
 have h0 : (s.l.den ρ).length = 0 := by omega
 refine ⟨h0, by rw [h1.lenOf w, h0], ?_⟩
 have := h1.first w 0 H (by omega)
 simpa using this
theorem growS_ok (hT : T.Ok P) (hρ : ρ.Ok) (hp : Holds ρ pc) (hrom : RomsOk T.orac.rom b0 ρ) (H : HeapR ρ b0 h w) (hn : HNames nx h) {t u ty e : TypeId} {te : TI} {du : TypeDesc} (ht : P.underlying t = some (.slice e)) (hu : P.underlying u = some du) (hd : srcTy du) (hte : T.ty.get e = some te)
  (hby : te.bytes ≤ 1000000) (hpos : 0 < te.size) {x : Value} {xs : LSrc} (hx : SrcL P ρ b0 h te.size x xs) {s : SV} (hsn : NamesV nx s) {base : Option Addr} {len cap : IE} (hs : s.den ρ = .slice base (len.den ρ).toNat (cap.den ρ).toNat) :
  ORok P ρ b0 h nx w (do pure (.value (← Builtin.append_ #[t, u] ty #[s.den ρ, x]))) (growS T.orac.rom pc h nx e te.size s len cap xs) := by
 obtain ⟨i, z, hi, hsz, _, _, _⟩ := (hT.ty _ te hte).info
 unfold growS
 split
 ·rename_i d1 d2 d3
  have g1 := dec_le hρ hp d1
  have g2 := dec_le hρ hp d2
  have g3 := dec_le hρ hp d3
  rw [lit_den] at g1 g2
  refine splitO_ok hρ hp (fun hz => ?_) (fun hz => ?_)
  ·have hz' := le_t hz
   rw [lit_den] at hz'
   obtain ⟨_, z2, z3⟩ := hx.zero H hz'
   refine okSame H hn s ?_ hsn
   rw [hs, Sem.run_bind, append_zero (ty := ty) ht hu hd hi z2 (by rw [hsz]; exact z3) (by omega)]; rfl
  ·split
   ·rename_i d4
    have g4 := dec_lt hρ hp d4
    rw [addE_den, hx.len] at g4
    split
    ·rename_i o ho
     split
     ·rename_i hb
      have hol : o.len.den ρ = len.den ρ := by rw [IE.beq_eq _ _ hb]
      have hS := srcL_ok (P := P) hρ hp hn hrom H ho
      rw [hs] at hS ⊢
      have hl := hS.len
      exact growL_ok hT hρ hp H hn (fun k p hp => hp) ht hu hd hte hby hpos hx hS (by omega) (by omega)
     ·trivial
    ·trivial
   ·trivial
 ·trivial
theorem ext_row (H : HeapR ρ b0 h w) (hn : HNames nx h) {n : Nat} {p : SObj} (hlk : lk h n = some p) {all : List Value} {rest : Array Value} {t : TypeId} {lo hi A sz : Nat} (hobj : w.heap[ρ.a n]? = some (.cells (all.toArray ++ rest) t (lo, hi))) (hfz : hi ≤ lo ∨ all.length + rest.size ≤ lo) (hcap : all.length + rest.size = A * sz) (hA : A ≤ maxLen) (hpos : 0 < sz)
  {off : Nat} {vs : List Value} (hoff : off ≤ all.length) (hend : off + vs.length ≤ all.length + rest.size) (h1 : ∀ v ∈ vs, v.oneCell' = true) {c : LE} {tot : IE} {ks : List CK} (hc : (c.den ρ).flatten = all.take off ++ vs) (hks : ks.length = sz) (ht : Typed ks (c.den ρ)) (htot : tot.den ρ = ((c.den ρ).length : Int)) :
  ∃ w', (storeCells ⟨ρ.a n, off, none⟩ vs).run P w = .ok () w' ∧ Move ρ (ρ.set2 nx (ρ.a n) A) b0 h ((nx, .rowl c tot ks t (nx + 1) sz) :: rmH n h) nx (nx + 2) w w' := by
 have hst := storeCells_run (P := P) (ρ.a n) off t (lo, hi) vs 0 _ w hobj (by rw [Array.size_append, List.size_toArray]; exact hfz) (by rw [Array.size_append, List.size_toArray]; omega) h1
 simp only [Nat.add_zero] at hst
 refine ⟨_, hst, ?_⟩
 have hlt := H.lt hlk
 have hown := H.own n _ hlk
 have g := ρ.set2_agr nx (ρ.a n) A
 obtain ⟨CS, hCS⟩ : ∃ CS, CS = ((all.toArray ++ rest).toList.take off ++ vs ++ (all.toArray ++ rest).toList.drop (off + vs.length)).toArray := ⟨_, rfl⟩
 rw [← hCS]
 have hcell : CS = (c.den ρ).flatten.toArray ++ ((all.toArray ++ rest).toList.drop (off + vs.length)).toArray := by
  rw [hCS, hc]
  apply Array.ext'
  simp only [Array.toList_append, List.append_assoc]
  rw [List.take_append_of_le_length hoff]
 have hoth : ∀ k, k ≠ ρ.a n → (w.setRow (ρ.a n) CS).heap[k]? = w.heap[k]? := fun k hk => setRow_other w (ρ.a n) k _ hk
 have hcl : (c.den ρ).flatten.length = off + vs.length := by rw [hc, List.length_append, List.length_take]; omega
 have hdl : ((all.toArray ++ rest).toList.drop (off + vs.length)).length = all.length + rest.size - (off + vs.length) := by simp
 have hsub0 : ∀ k p, lk (rmH n h) k = some p → lk h k = some p := by
  intro m q hq
  rw [lk_rmH] at hq
  split at hq
  ·cases hq
  ·exact hq
 refine Move.row H hn hsub0 (A := ρ.a n) (C := A) (obj := .cells CS t (lo, hi)) ?_ (by simp) (.inr ⟨n, _, hlk, rfl, by rw [lk_rmH]; simp⟩) ?_ ?_ ?_ ?_ ?_
 ·refine ⟨⟨H.g0.os, H.g0.tape, H.g0.output, by simpa using H.g0.size, fun k hk hne => ?_⟩, H.g0.dr⟩
  rw [hoth k (by omega)]; exact H.g0.block k hk hne
 ·exact setRow_heap w (ρ.a n) _ _ t _ hobj
 ·intro m q hq
  rw [lk_rmH] at hq
  split at hq
  ·cases hq
  ·rename_i hmn
   exact hoth _ (fun he => hmn (H.inj m n q _ hq hlk he))
 ·intro k hk hne
  exact hoth k (fun he => hne n _ hlk he.symm)
 ·refine ⟨((all.toArray ++ rest).toList.drop (off + vs.length)).toArray, lo, hi, by rw [LE.den_agr g, hcell], ?_, ?_, by rw [Rho.set2_c]; exact hA, hpos, hks, by rw [LE.den_agr g]; exact ht, by rw [LE.den_agr g, IE.den_agr g]; exact htot⟩
  ·rw [LE.den_agr g, hcl, List.size_toArray, hdl]; omega
  ·rw [LE.den_agr g, hcl, List.size_toArray, hdl, Rho.set2_c]; omega
 ·intro m hm
  simp only [SObj.names, List.mem_cons, List.not_mem_nil, or_false] at hm
  omega
theorem ownGrow_ok (hT : T.Ok P) (hρ : ρ.Ok) (hp : Holds ρ pc) (H : HeapR ρ b0 h w) (hn : HNames nx h) {t u ty e : TypeId} {te : TI} {du : TypeDesc} (ht : P.underlying t = some (.slice e)) (hu : P.underlying u = some du) (hd : srcTy du) (hte : T.ty.get e = some te)
  (hby : te.bytes ≤ 1000000) (hpos : 0 < te.size) {x : Value} {xs : LSrc} (hx : SrcL P ρ b0 h te.size x xs) {n : Nat} {p : SObj} (hlk : lk h n = some p) {all : List Value} {rest : Array Value} {lo hi A : Nat} (hobj : w.heap[ρ.a n]? = some (.cells (all.toArray ++ rest) e (lo, hi)))
  (hfz : hi ≤ lo ∨ all.length + rest.size ≤ lo) (hcap : all.length + rest.size = A * te.size) (hA : A ≤ maxLen) {o : LSrc} {len : Nat} (ho : SrcL P ρ b0 h te.size (.slice (some ⟨ρ.a n, 0, none⟩) len A) o) (hol : (o.l.den ρ).length = len) (hall : (o.l.den ρ).flatten = all.take (len * te.size)) (hla : len * te.size ≤ all.length) :
  ORok P ρ b0 h nx w (do pure (.value (← Builtin.append_ #[t, u] ty #[.slice (some ⟨ρ.a n, 0, none⟩) len A, x]))) (growL pc (rmH n h) nx e te.size o xs) := by
 have hsub0 : ∀ k p, lk (rmH n h) k = some p → lk h k = some p := by
  intro m q hq
  rw [lk_rmH] at hq
  split at hq
  ·cases hq
  ·exact hq
 by_cases hroom : len + (xs.l.den ρ).length ≤ A
 ·obtain ⟨i, z, hi', hsz, _, _, _⟩ := (hT.ty _ te hte).info
  unfold growL
  split
  ·rename_i ks hks
   obtain ⟨k1, k2⟩ := ksTwo_ok hks
   have t1 := ho.typed k1
   have t2 := hx.typed k2
   split
   ·rename_i hkl
    have hkl' : ks.length = te.size := by simpa using hkl
    split
    ·have hxl : (xs.l.den ρ).flatten.length = (xs.l.den ρ).length * te.size := by rw [flat_len t2, hkl']
     have hsum : len * te.size + (xs.l.den ρ).length * te.size ≤ A * te.size := by rw [← Nat.add_mul]; exact Nat.mul_le_mul_right _ hroom
     have hcat : (catE o.l xs.l).den ρ = o.l.den ρ ++ xs.l.den ρ := catE_den _ _
     have hal : (addE o.len xs.len).den ρ = ((len + (xs.l.den ρ).length : Nat) : Int) := by rw [addE_den, ho.len, hx.len, hol]; omega
     obtain ⟨w', hst, hmv⟩ := ext_row (P := P) H hn hlk hobj hfz hcap hA hpos (off := len * te.size) (vs := (xs.l.den ρ).flatten) hla (by omega) (typed_one t2) (c := catE o.l xs.l) (tot := addE o.len xs.len) (by rw [hcat, List.flatten_append, hall]) hkl' (by rw [hcat]; exact t1.app t2) (by rw [hal, hcat, List.length_append, hol])
     have g := ρ.set2_agr nx (ρ.a n) A
     refine ⟨_, w', .value (.slice (some ⟨ρ.a n, 0, none⟩) (len + (xs.l.den ρ).length) A), ?_, .inl ?_, hmv, ?_⟩
     ·rw [Sem.run_bind, append_in (ty := ty) (off := 0) (new := (xs.l.den ρ).flatten) ht hu hd hi' (hx.lenOf w) (by rw [hsz]; exact hx.all H) hroom (by rw [hsz, Nat.zero_add]; exact hst)]; rfl
     ·simp [SV.den, Rho.set2_a, Rho.set2_c, capDen, IE.den_agr g, IE.den, hal]
      omega
     ·intro m hm
      simp only [SV.names, List.mem_cons, List.not_mem_nil, or_false] at hm
      omega
    ·trivial
   ·trivial
  ·trivial
 ·exact growL_ok hT hρ hp H hn hsub0 ht hu hd hte hby hpos hx ho hol hroom
theorem mid_row {te : Nat} {c m : LE} {tot : IE} {ks : List CK} (hks : ks.length = te) (ht : Typed ks (c.den ρ)) (htot : tot.den ρ = ((c.den ρ).length : Int)) (hm : Typed ks (m.den ρ)) {o k : IE} (h0 : 0 ≤ o.den ρ) (hk : k.den ρ = o.den ρ + ((m.den ρ).length : Int)) (hle : k.den ρ ≤ tot.den ρ) :
  ((catE (catE (winL c tot (.lit 0) o) m) (winL c tot k (subE tot k))).den ρ).flatten = (c.den ρ).flatten.take ((o.den ρ).toNat * te) ++ (m.den ρ).flatten ++ (c.den ρ).flatten.drop ((o.den ρ).toNat * te + (m.den ρ).flatten.length) ∧
  Typed ks ((catE (catE (winL c tot (.lit 0) o) m) (winL c tot k (subE tot k))).den ρ) ∧ ((catE (catE (winL c tot (.lit 0) o) m) (winL c tot k (subE tot k))).den ρ).length = (c.den ρ).length := by
 have w1 : (winL c tot (.lit 0) o).den ρ = (c.den ρ).take (o.den ρ).toNat := by rw [winL_den htot]; simp [IE.den]
 have w2 : (winL c tot k (subE tot k)).den ρ = (c.den ρ).drop (k.den ρ).toNat := by
  rw [winL_den htot, subE_den, htot, List.take_of_length_le]
  simp; omega
 rw [catE_den, catE_den, w1, w2]
 have hkn : (k.den ρ).toNat = (o.den ρ).toNat + (m.den ρ).length := by omega
 refine ⟨?_, ((ht.take _).app hm).app (ht.drop _), ?_⟩
 ·rw [List.flatten_append, List.flatten_append, flat_take _ _ ht, flat_drop _ _ ht, hks, flat_len hm, hks, hkn, Nat.add_mul]
 ·simp only [List.length_append, List.length_take, List.length_drop]; omega
theorem append_place {t u ty e : TypeId} {i : TypeInfo} {x : Value} {du : TypeDesc} {g sLen sCap k : Nat} {new : List Value} {w' : World} (ht : P.underlying t = some (.slice e)) (hu : P.underlying u = some du) (hd : srcTy du) (hi : P.info? e = some i)
  (hlen : (Builtin.lenOf x).run P w = .ok k w) (hnew : (Builtin.firstCells i.size k x).run P w = .ok new.toArray w) (hroom : sLen + k ≤ sCap) (hst : (storeCells ⟨g, sLen * i.size, none⟩ new).run P w = .ok () w') :
  (Builtin.append_ #[t, u] ty #[.slice (some ⟨g, 0, none⟩) sLen sCap, x]).run P w = .ok (.slice (some ⟨g, 0, none⟩) (sLen + k) sCap) w' :=
 append_in (ty := ty) (off := 0) ht hu hd hi hlen hnew hroom (by rw [Nat.zero_add]; exact hst)
theorem appendL_ok (hT : T.Ok P) (hρ : ρ.Ok) (hp : Holds ρ pc) (hrom : RomsOk T.orac.rom b0 ρ) (H : HeapR ρ b0 h w) (hn : HNames nx h) {t u ty e : TypeId} {te : TI} {du : TypeDesc} (ht : P.underlying t = some (.slice e)) (hu : P.underlying u = some du) (hd : srcTy du) (hte : T.ty.get e = some te)
  (hby : te.bytes ≤ 1000000) (hpos : 0 < te.size) {x : Value} {xs : LSrc} (hx : SrcL P ρ b0 h te.size x xs) {s : SV} (hsn : NamesV nx s) :
  ORok P ρ b0 h nx w (do pure (.value (← Builtin.append_ #[t, u] ty #[s.den ρ, x]))) (appendL T.orac.rom pc h nx e te.size s xs) := by
 obtain ⟨i, z, hi, hsz, _, _, _⟩ := (hT.ty _ te hte).info
 unfold appendL
 split
 ·-- nil
  have hnil : SrcL P ρ b0 h te.size (.slice none 0 0) ⟨.lit 0, .nil, none⟩ := ⟨by simp [IE.den, LE.den], (fun ks hk => by cases hk), (fun _ => by simp only [LE.den]), fun w => by simp [Builtin.lenOf, LE.den], fun w n H hnl => by simp [Builtin.firstCells, LE.den]⟩
  refine splitO_ok hρ hp (fun hz => ?_) (fun hz => ?_)
  ·have hz' := le_t hz
   rw [lit_den] at hz'
   obtain ⟨_, z2, z3⟩ := hx.zero H hz'
   refine okSame H hn _ ?_ hsn
   simp only [SV.den]
   rw [Sem.run_bind, append_zero (ty := ty) ht hu hd hi z2 (by rw [hsz]; exact z3) (Nat.le_refl _)]; rfl
  ·have hz' := le_f hz
   rw [lit_den, hx.len] at hz'
   simp only [SV.den]
   exact growL_ok hT hρ hp H hn (fun k p hp => hp) ht hu hd hte hby hpos hx hnil (by simp [LE.den]) (by omega)
 ·rename_i n off len cap
  exact growS_ok hT hρ hp hrom H hn ht hu hd hte hby hpos hx hsn (base := some ⟨ρ.a n, off, none⟩) (by simp [SV.den, IE.den])
 ·rename_i r off len c
  exact growS_ok hT hρ hp hrom H hn ht hu hd hte hby hpos hx hsn (base := _) (by simp only [SV.den, capDen]; rfl)
 ·rename_i n cn z' off len c
  exact growS_ok hT hρ hp hrom H hn ht hu hd hte hby hpos hx hsn (base := _) (by simp only [SV.den, capDen]; rfl)
 ·rename_i n cn zz len
  split
  ·rename_i c tot ks uu dn zs hlk
   split
   ·rename_i q1
    split
    ·rename_i q2
     split
     ·rename_i q3
      split
      ·rename_i q4
       split
       ·rename_i q5
        have q1' : zs = zz := by simpa using q1
        have q2' : zz = te.size := by simpa using q2
        have q3' : dn = cn := by simpa using q3
        have q4' : uu = e := by simpa using q4
        subst q1'; subst q3'; subst q4'
        subst q2'
        obtain ⟨obj, ho, rest, lo, hi', rfl, hfz, hcap, hmx, _, hks, htc, htot⟩ := H.at_ n _ hlk
        have hfl : (c.den ρ).flatten.length = (c.den ρ).length * te.size := by rw [flat_len htc, hks]
        have hAge : (c.den ρ).length ≤ ρ.a dn := by
         have : (c.den ρ).length * te.size ≤ ρ.a dn * te.size := by omega
         exact Nat.le_of_mul_le_mul_right this hpos
        have hxt : Typed ks (xs.l.den ρ) := by
         unfold ksFits at q5
         split at q5
         ·rename_i k hk
          rw [← ksEq_eq _ _ q5] at hk
          exact hx.typed (.inr hk)
         ·rename_i hk; exact hx.typed (.inl hk)
        have hxl : (xs.l.den ρ).flatten.length = (xs.l.den ρ).length * te.size := by rw [flat_len hxt, hks]
        refine needO_ok hρ hp (fun d1 => needO_ok hρ hp (fun d2 => splitO_ok hρ hp (fun d3 => ?_) (fun d3 => ?_)))
        ·have g1 := le_t d1
         have g2 := le_t d2
         have g3 := le_t d3
         rw [lit_den] at g1
         rw [addE_den, hx.len, htot] at g3
         obtain ⟨m1, m2, m3⟩ := mid_row (ρ := ρ) (m := xs.l) (o := len) (k := addE len xs.len) hks htc htot hxt g1 (by rw [addE_den, hx.len]) (by rw [addE_den, hx.len, htot]; exact g3)
         have hln : (len.den ρ).toNat + (xs.l.den ρ).length ≤ (c.den ρ).length := by omega
         have hmul : (len.den ρ).toNat * te.size + (xs.l.den ρ).length * te.size ≤ (c.den ρ).length * te.size := by rw [← Nat.add_mul]; exact Nat.mul_le_mul_right _ hln
         obtain ⟨w', hst, hmv⟩ := rowl_write (P := P) (off := (len.den ρ).toNat * te.size) (vs := (xs.l.den ρ).flatten) H hn hlk (by rw [hfl, hxl]; exact hmul) (typed_one hxt) m1 m2 m3
         unfold inPlace
         refine ⟨ρ, w', .value (.slice (some ⟨ρ.a n, 0, none⟩) ((len.den ρ).toNat + (xs.l.den ρ).length) (ρ.a dn)), ?_, .inl ?_, hmv, fun m hm => hsn m (by simpa [SV.names] using hm)⟩
         ·rw [Sem.run_bind]
          have hden : (SV.sll n dn te.size (.lit (.ofNat 0)) len none).den ρ = .slice (some ⟨ρ.a n, 0, none⟩) (len.den ρ).toNat (ρ.a dn) := by simp [SV.den, IE.den, capDen]
          rw [hden, append_place (ty := ty) ht hu hd hi (hx.lenOf w) (by rw [hsz]; exact hx.all H) (by omega) (by rw [hsz]; exact hst)]; rfl
         ·have : (addE len xs.len).den ρ = (((len.den ρ).toNat + (xs.l.den ρ).length : Nat) : Int) := by rw [addE_den, hx.len]; omega
          simp [SV.den, IE.den, capDen, this]
          omega
        ·have g1 := le_t d1
         have g2 := le_t d2
         rw [lit_den] at g1
         rw [htot] at g2
         have hden : (SV.sll n dn te.size (.lit (.ofNat 0)) len none).den ρ = .slice (some ⟨ρ.a n, 0, none⟩) (len.den ρ).toNat (ρ.a dn) := by simp [SV.den, IE.den, capDen]
         rw [hden]
         have hw : (winL c tot (.lit 0) len).den ρ = (c.den ρ).take (len.den ρ).toNat := by rw [winL_den htot]; simp [IE.den]
         have hol : ((winL c tot (.lit 0) len).den ρ).length = (len.den ρ).toNat := by rw [hw, List.length_take]; omega
         have hS : SrcL P ρ b0 h te.size (.slice (some ⟨ρ.a n, 0, none⟩) (len.den ρ).toNat (ρ.a dn)) ⟨len, winL c tot (.lit 0) len, some ks⟩ := by
          refine ⟨by show len.den ρ = _; rw [hol]; omega, (fun ks' hk => by cases hk; show Typed ks _ ∧ _; rw [hw]; exact ⟨htc.take _, hks⟩), (fun hh => by cases hh), fun w => by show _ = Result.ok (List.length (LE.den ρ _)) w; rw [hol]; simp [Builtin.lenOf], fun w m Hw hm => ?_⟩
          show _ = Result.ok (List.take _ (List.flatten (LE.den ρ _))).toArray w
          rw [hw]
          exact first_some (htc.take _) hks (fun i c e v he hv => by
           rw [List.getElem?_take] at he
           split at he
           ·rw [Nat.zero_add]; exact rowl_cell Hw hlk he hv
           ·cases he) (by rw [← hw]; exact hm)
         exact ownGrow_ok hT hρ hp H hn ht hu hd hte hby hpos hx hlk ho hfz hcap hmx hS hol (by rw [hw, flat_take _ _ htc, hks]) (by rw [hfl]; exact Nat.mul_le_mul_right _ (by omega))
       ·trivial
      ·trivial
     ·trivial
    ·trivial
   ·trivial
  ·trivial
 ·rename_i n cn zz len
  split
  ·rename_i cs uu dn zs hlk
   split
   ·rename_i q1
    split
    ·rename_i q2
     split
     ·rename_i q3
      split
      ·rename_i q4
       split
       ·rename_i q5
        split
        ·rename_i o hos
         split
         ·rename_i hb
          have q1' : zs = zz := by simpa using q1
          have q2' : zz = te.size := by simpa using q2
          have q3' : dn = cn := by simpa using q3
          have q4' : uu = e := by simpa using q4
          have q5' : cs.length = len * te.size := by simpa using q5
          subst q1'; subst q3'; subst q4'
          subst q2'
          have hol := congrArg (IE.den ρ) (IE.beq_eq _ _ hb)
          rw [lit_den] at hol
          have hS := srcL_ok (P := P) hρ hp hn hrom H hos
          have hden : (SV.sl n dn te.size 0 len).den ρ = .slice (some ⟨ρ.a n, 0, none⟩) len (ρ.a dn) := by simp [SV.den]
          rw [hden] at hS ⊢
          obtain ⟨obj, ho, rest, lo, hi', rfl, hfz, hcap, hmx, _⟩ := H.at_ n _ hlk
          have hl := hS.len
          have hol' : (o.l.den ρ).length = len := by omega
          have hal := hS.all H
          rw [hol'] at hal
          have hfc := run_firstCells_some (P := P) w te.size len ⟨ρ.a n, 0, none⟩ len (ρ.a dn) (SV.denL ρ cs) (by rw [denL_length, q5']) (fun j v hj => by
           rw [denL_get] at hj
           cases hq2 : cs[j]? with
           | none => simp [hq2] at hj
           | some uq =>
            simp [hq2] at hj
            rw [addr_add, Nat.zero_add, cell_at H hlk rfl hq2, hj])
          rw [hfc] at hal
          have hfl : (o.l.den ρ).flatten = SV.denL ρ cs := by
           have := hal
           simp only [Result.ok.injEq, and_true] at this
           have := congrArg Array.toList this
           simpa using this.symm
          exact ownGrow_ok hT hρ hp H hn ht hu hd hte hby hpos hx hlk ho (by rw [denL_length]; exact hfz) (by rw [denL_length]; exact hcap) hmx hS hol' (by rw [hfl, List.take_of_length_le (by rw [denL_length, q5']; exact Nat.le_refl _)]) (by rw [denL_length, q5']; exact Nat.le_refl _)
         ·trivial
        ·trivial
       ·trivial
      ·trivial
     ·trivial
    ·trivial
   ·trivial
  ·trivial
 ·trivial
end
end Go.Proofs.Ythenenacmiiphaa.Sx
namespace Go.Proofs.Ythenenacmiiphaa.Sx
open Go
section
variable {P : Program} {T : Tab} {ρ : Rho} {b0 : World} {pc : List BE} {h : SHeap} {nx : Nat} {w : World} {sl : Slots} {a : Act} {S : Sem Next}
theorem splitX_ok {S : Sem Next} {x : SV} {n : Nat} : ORok P ρ b0 h nx w S (splitX pc x n) := by
 unfold splitX; split <;> trivial
theorem symAppendL_ok (hT : T.Ok P) (hρ : ρ.Ok) (hp : Holds ρ pc) (hrom : RomOk T.orac b0 ρ) (H : HeapR ρ b0 h w) (hn : HNames nx h) {t u ty : TypeId} {s x : SV} (hsn : NamesV nx s) :
  ORok P ρ b0 h nx w (do pure (.value (← Builtin.append_ #[t, u] ty #[s.den ρ, x.den ρ]))) (symAppendL T pc h nx t u s x) := by
 unfold symAppendL
 split
 ·rename_i ti tu hti htu
  obtain ⟨d, hd, hst, _⟩ := (hT.ty t ti hti).und
  obtain ⟨du, hdu, hsu, _⟩ := (hT.ty u tu htu).und
  split
  ·rename_i e hu1
   rw [hu1] at hst
   simp only [StOk] at hst
   subst hst
   split
   ·rename_i te hte
    split
    ·rename_i hrt
     have hsd : srcTy du := by
      unfold rowTy at hrt
      split at hrt
      ·rename_i f hq; rw [hq] at hsu; exact .inl ⟨_, hsu⟩
      ·rename_i hq; rw [hq] at hsu; exact .inr hsu
      ·cases hrt
     split
     ·rename_i hby
      split
      ·trivial
      ·rename_i h0
       split
       ·trivial
       ·split
        ·rename_i src hsrc
         exact appendL_ok hT hρ hp hrom H hn hd hdu hsd hte (Nat.le_of_ble_eq_true hby) (Nat.pos_of_ne_zero (by simpa using h0)) (srcL_ok hρ hp hn hrom H hsrc) hsn
        ·exact splitX_ok
     ·trivial
    ·trivial
   ·trivial
  ·trivial
 ·trivial
theorem symCopyL_ok (hT : T.Ok P) (hρ : ρ.Ok) (hp : Holds ρ pc) (hrom : RomOk T.orac b0 ρ) (H : HeapR ρ b0 h w) (hn : HNames nx h) {t u ty : TypeId} {s x : SV} (hsn : NamesV nx s) :
  ORok P ρ b0 h nx w (do pure (.value (← Builtin.copy_ #[t, u] ty #[s.den ρ, x.den ρ]))) (symCopyL T pc h nx t s x) := by
 unfold symCopyL
 split
 ·rename_i ti n cn z off len cap hti
  obtain ⟨d, hd, hst, _⟩ := (hT.ty t ti hti).und
  split
  ·rename_i e hu
   rw [hu] at hst
   simp only [StOk] at hst
   subst hst
   split
   ·rename_i te c tot ks uu dn zs hte hlk
    obtain ⟨i, zz, hi, hsz, _, _, _⟩ := (hT.ty _ te hte).info
    split
    ·rename_i q1
     split
     ·rename_i q2
      have q1' : zs = z := by simpa using q1
      have q2' : z = te.size := by simpa using q2
      subst q1'; subst q2'
      obtain ⟨obj, ho, rest, lo, hi', rfl, hfz, hcap, hmx, hpos, hks, htc, htot⟩ := H.at_ n _ hlk
      have hfl : (c.den ρ).flatten.length = (c.den ρ).length * te.size := by rw [flat_len htc, hks]
      split
      ·rename_i src hsrc
       have hx := srcL_ok (P := P) hρ hp hn hrom H hsrc
       split
       ·rename_i q5
        have hxt : Typed ks (src.l.den ρ) := by
         unfold ksFits at q5
         split at q5
         ·rename_i k hk
          rw [← ksEq_eq _ _ q5] at hk
          exact hx.typed (.inr hk)
         ·rename_i hk; exact hx.typed (.inl hk)
        have hxl : (src.l.den ρ).flatten.length = (src.l.den ρ).length * te.size := by rw [flat_len hxt, hks]
        have hden : (SV.sll n cn te.size off len cap).den ρ = .slice (some ⟨ρ.a n, (off.den ρ).toNat * te.size, none⟩) (len.den ρ).toNat (capDen ρ (ρ.a cn - (off.den ρ).toNat) cap) := by simp only [SV.den]
        have run : ∀ (q : Nat) (w' : World), Nat.min (src.l.den ρ).length (len.den ρ).toNat = q → (storeCells ⟨ρ.a n, (off.den ρ).toNat * te.size, none⟩ ((src.l.den ρ).flatten.take (q * te.size))).run P w = .ok () w' → (Builtin.copy_ #[t, u] ty #[(SV.sll n cn te.size off len cap).den ρ, x.den ρ]).run P w = .ok (goInt q) w' := by
         intro q w' hq hst
         have hl := hx.lenOf w
         have hf := hx.first w q H (by rw [← hq]; exact Nat.min_le_left _ _)
         rw [hden]
         simp only [Builtin.copy_]
         simp [run_underlying hd, sizeOf, typeInfo, hi, hl, hsz, hq, hf, hst]
        refine needO_ok hρ hp (fun d1 => needO_ok hρ hp (fun d2 => needO_ok hρ hp (fun d3 => splitO_ok hρ hp (fun d4 => ?_) (fun d4 => ?_))))
        ·have g1 := le_t d1
         have g2 := le_t d2
         have g3 := le_t d3
         have g4 := le_t d4
         rw [lit_den, resI_den hρ hp] at g1
         rw [addE_den, resI_den hρ hp, htot] at g2
         rw [lit_den] at g3
         rw [hx.len] at g4
         obtain ⟨m1, m2, m3⟩ := mid_row (ρ := ρ) (m := src.l) (o := resI pc off) (k := addE (resI pc off) src.len) hks htc htot hxt (by rw [resI_den hρ hp]; exact g1) (by rw [addE_den, hx.len]) (by rw [addE_den, hx.len, resI_den hρ hp, htot]; omega)
         rw [resI_den hρ hp] at m1
         have hln : (off.den ρ).toNat + (src.l.den ρ).length ≤ (c.den ρ).length := by omega
         have hmul : (off.den ρ).toNat * te.size + (src.l.den ρ).length * te.size ≤ (c.den ρ).length * te.size := by rw [← Nat.add_mul]; exact Nat.mul_le_mul_right _ hln
         obtain ⟨w', hst, hmv⟩ := rowl_write (P := P) (off := (off.den ρ).toNat * te.size) (vs := (src.l.den ρ).flatten) H hn hlk (by rw [hfl, hxl]; exact hmul) (typed_one hxt) m1 m2 m3
         have hmin : Nat.min (src.l.den ρ).length (len.den ρ).toNat = (src.l.den ρ).length := Nat.min_eq_left (by omega)
         refine ⟨ρ, w', _, ?_, .inl rfl, hmv, fun m hm => by cases hm⟩
         rw [Sem.run_bind, run _ w' hmin (by rw [List.take_of_length_le (by rw [hxl]; exact Nat.le_refl _)]; exact hst)]
         simp [SV.den, goInt, hx.len]
        ·have g1 := le_t d1
         have g2 := le_t d2
         have g3 := le_t d3
         have g4 := le_f d4
         rw [lit_den, resI_den hρ hp] at g1
         rw [addE_den, resI_den hρ hp, htot] at g2
         rw [lit_den] at g3
         rw [hx.len] at g4
         have htk : (LE.take src.l len).den ρ = (src.l.den ρ).take (len.den ρ).toNat := by simp only [LE.den]
         have hxt' : Typed ks ((LE.take src.l len).den ρ) := by rw [htk]; exact hxt.take _
         have htl : ((LE.take src.l len).den ρ).length = (len.den ρ).toNat := by rw [htk, List.length_take]; omega
         obtain ⟨m1, m2, m3⟩ := mid_row (ρ := ρ) (m := .take src.l len) (o := resI pc off) (k := addE (resI pc off) len) hks htc htot hxt' (by rw [resI_den hρ hp]; exact g1) (by rw [addE_den, htl]; omega) (by rw [addE_den, resI_den hρ hp, htot]; omega)
         rw [resI_den hρ hp] at m1
         have hxl' : ((LE.take src.l len).den ρ).flatten.length = (len.den ρ).toNat * te.size := by rw [flat_len hxt', hks, htl]
         have hln : (off.den ρ).toNat + (len.den ρ).toNat ≤ (c.den ρ).length := by omega
         have hmul : (off.den ρ).toNat * te.size + (len.den ρ).toNat * te.size ≤ (c.den ρ).length * te.size := by rw [← Nat.add_mul]; exact Nat.mul_le_mul_right _ hln
         obtain ⟨w', hst, hmv⟩ := rowl_write (P := P) (off := (off.den ρ).toNat * te.size) (vs := ((LE.take src.l len).den ρ).flatten) H hn hlk (by rw [hfl, hxl']; exact hmul) (typed_one hxt') m1 m2 m3
         have hmin : Nat.min (src.l.den ρ).length (len.den ρ).toNat = (len.den ρ).toNat := Nat.min_eq_right (by omega)
         refine ⟨ρ, w', _, ?_, .inl rfl, hmv, fun m hm => by cases hm⟩
         rw [htk, flat_take _ _ hxt, hks] at hst
         rw [Sem.run_bind, run _ w' hmin hst]
         simp [SV.den, goInt]
         omega
       ·trivial
      ·trivial
     ·trivial
    ·trivial
   ·trivial
  ·trivial
 ·trivial
theorem symClearL_ok (hT : T.Ok P) (hρ : ρ.Ok) (hp : Holds ρ pc) (hrom : RomOk T.orac b0 ρ) (H : HeapR ρ b0 h w) (hn : HNames nx h) {t ty : TypeId} (s : SV) :
  ORok P ρ b0 h nx w (do pure (.value (← Builtin.clear_ #[t] ty #[s.den ρ]))) (symClearL T pc h nx t s) := by
 unfold symClearL
 split
 ·rename_i ti n cn z off len cap hti
  obtain ⟨d, hd, hst, _⟩ := (hT.ty t ti hti).und
  split
  ·rename_i e hu
   rw [hu] at hst
   simp only [StOk] at hst
   subst hst
   split
   ·rename_i te c tot ks uu dn zs hte hlk
    obtain ⟨i, zv, hi, hsz, hz, hzc, _⟩ := (hT.ty _ te hte).info
    split
    ·rename_i q1
     split
     ·rename_i q2
      have q1' : zs = z := by simpa using q1
      have q2' : z = te.size := by simpa using q2
      subst q1'; subst q2'
      obtain ⟨obj, ho, rest, lo, hi', rfl, hfz, hcap, hmx, hpos, hks, htc, htot⟩ := H.at_ n _ hlk
      have hfl : (c.den ρ).flatten.length = (c.den ρ).length * te.size := by rw [flat_len htc, hks]
      split
      ·rename_i al hal
       obtain ⟨a1, a2⟩ := toAL_ok hρ hp hrom.typed _ _ _ hal
       refine needO_ok hρ hp (fun d1 => needO_ok hρ hp (fun d2 => needO_ok hρ hp (fun d3 => ?_)))
       have g1 := le_t d1
       have g2 := le_t d2
       have g3 := le_t d3
       rw [lit_den, resI_den hρ hp] at g1
       rw [addE_den, resI_den hρ hp, htot] at g2
       rw [lit_den] at g3
       have hrd : (LE.rep al len).den ρ = List.replicate (len.den ρ).toNat (SV.denL ρ te.zero) := by simp only [LE.den, a1]
       have hxt : Typed ks ((LE.rep al len).den ρ) := by rw [hrd]; exact .rep _ a2
       have htl : ((LE.rep al len).den ρ).length = (len.den ρ).toNat := by rw [hrd]; simp
       obtain ⟨m1, m2, m3⟩ := mid_row (ρ := ρ) (m := .rep al len) (o := resI pc off) (k := addE (resI pc off) len) hks htc htot hxt (by rw [resI_den hρ hp]; exact g1) (by rw [addE_den, htl]; omega) (by rw [addE_den, resI_den hρ hp, htot]; omega)
       rw [resI_den hρ hp] at m1
       have hxl : ((LE.rep al len).den ρ).flatten.length = (len.den ρ).toNat * te.size := by rw [flat_len hxt, hks, htl]
       have hln : (off.den ρ).toNat + (len.den ρ).toNat ≤ (c.den ρ).length := by omega
       have hmul : (off.den ρ).toNat * te.size + (len.den ρ).toNat * te.size ≤ (c.den ρ).length * te.size := by rw [← Nat.add_mul]; exact Nat.mul_le_mul_right _ hln
       obtain ⟨w', hst, hmv⟩ := rowl_write (P := P) (off := (off.den ρ).toNat * te.size) (vs := ((LE.rep al len).den ρ).flatten) H hn hlk (by rw [hfl, hxl]; exact hmul) (typed_one hxt) m1 m2 m3
       have hzz : (Builtin.zeroCells zv.cells (len.den ρ).toNat).toList = ((LE.rep al len).den ρ).flatten := by
        rw [hzc ρ, hrd]
        have := reps_get (SV.denL ρ te.zero) (len.den ρ).toNat
        simp only [Builtin.zeroCells]
        have h2 : (SV.denL ρ te.zero).toArray.size = (SV.denL ρ te.zero).length := by simp
        rw [h2]
        rw [h2] at this
        rw [this]
       rw [← hzz] at hst
       refine ⟨ρ, w', .value (.tuple #[]), ?_, .inl (by simp [SV.den, SV.denL]), hmv, fun m hm => by simp [SV.names, SV.namesL] at hm⟩
       rw [Sem.run_bind]
       have : (Builtin.clear_ #[t] ty #[(SV.sll n cn te.size off len cap).den ρ]).run P w = .ok (.tuple #[]) w' := by
        simp only [SV.den]
        cases hln0 : (len.den ρ).toNat with
        | zero =>
         rw [hln0] at hst
         have e0 : (Builtin.zeroCells zv.cells 0).toList = [] := by simp [Builtin.zeroCells]
         rw [e0] at hst
         simp [storeCells] at hst
         subst hst
         simp [Builtin.clear_, run_underlying hd]
        | succ m =>
         rw [hln0] at hst
         simp [Builtin.clear_, run_underlying hd, zeroValue, typeInfo, hi, hz, hst]
       rw [this]; rfl
      ·trivial
     ·trivial
    ·trivial
   ·trivial
  ·trivial
 ·trivial
theorem makeSliceX_ok (hT : T.Ok P) (hρ : ρ.Ok) (hp : Holds ρ pc) (hrom : RomOk T.orac b0 ρ) (H : HeapR ρ b0 h w) (hn : HNames nx h) (hsl : SlotsR ρ sl a.tmps) (t : TypeId) (x y : Operand) :
  ORok P ρ b0 h nx w (do pure (.value (← Instr.makeSlice t (a.eval x) (a.eval y)))) (opMakeSliceX T pc h nx sl t x y) := by
 have hold := makeSlice_ok (P := P) hT H hn hsl t x y
 unfold opMakeSliceX
 split
 ·split
  ·rename_i ti l c hti hl hc
   obtain ⟨d, hd, hst, _⟩ := (hT.ty t ti hti).und
   rw [ev_den hsl x, ev_den hsl y, hl, hc]
   split
   ·rename_i e hu
    rw [hu] at hst
    simp only [StOk] at hst
    subst hst
    split
    ·rename_i te hte
     obtain ⟨i', z, hi', hsz, hz, hzc, hby⟩ := (hT.ty _ te hte).info
     have hzl := (hT.ty _ te hte).zl
     unfold makeL
     split
     ·rename_i hb
      have hb' := IE.beq_eq _ _ hb
      subst hb'
      split
      ·rename_i h3
       have h3' := Nat.le_of_ble_eq_true h3
       refine needO_ok hρ hp (fun d1 => needO_ok hρ hp (fun d2 => ?_))
       have g1 := le_t d1
       have g2 := le_t d2
       rw [lit_den] at g1 g2
       split
       ·rename_i ks hks
        split
        ·rename_i al hal
         split
         ·trivial
         ·rename_i hs0
          have hpos : 0 < te.size := Nat.pos_of_ne_zero (by simpa using hs0)
          obtain ⟨a1, a2⟩ := toAL_ok hρ hp hrom.typed _ _ _ hal
          have hkl : ks.length = te.size := by rw [kindsOf_length hks, hzl]
          have hb : (i'.bytes : Int) * (l.den ρ) ≤ 281474976710656 := by
           have h5 : i'.bytes * (l.den ρ).toNat ≤ 1000000 * 1000000 := Nat.mul_le_mul (by omega) (by omega)
           have h4 : ((i'.bytes * (l.den ρ).toNat : Nat) : Int) ≤ 281474976710656 := by omega
           rw [Int.natCast_mul] at h4
           rwa [show (((l.den ρ).toNat : Nat) : Int) = l.den ρ by omega] at h4
          have hr := run_make (P := P) w t e i' z hd hi' hz .i64 .i64 (l.den ρ) (l.den ρ) g1 (Int.le_refl _) hb (by omega)
          have hrd : (LE.rep al l).den ρ = List.replicate (l.den ρ).toNat (SV.denL ρ te.zero) := by simp only [LE.den, a1]
          have hxt : Typed ks ((LE.rep al l).den ρ) := by rw [hrd]; exact .rep _ a2
          have htl : ((LE.rep al l).den ρ).length = (l.den ρ).toNat := by rw [hrd]; simp
          have hmc : madeCells z.cells ((l.den ρ).toNat * i'.size) = ((LE.rep al l).den ρ).flatten.toArray := by
           rw [hzc ρ, hsz, ← hzl, hrd, ← reps_get]
           simp [madeCells, denL_length]
          rw [hmc] at hr
          refine newRowL_ok (c := .rep al l) (tot := l) (len := l) H hn (h0 := h) (fun k p hp => hp) (cap := (l.den ρ).toNat) (rest := #[]) (lo := 0) (hi := 0) (w' := w.alloc (.cells ((LE.rep al l).den ρ).flatten.toArray e)) ⟨w, H, rfl, ?_, rfl, rfl, rfl, rfl⟩ ?_ (.inl (Nat.le_refl _)) ?_ (by simp [maxLen]; omega) hpos hkl hxt (by rw [htl]; omega)
          ·show w.heap.push _ = _
           simp
          ·simp only [SV.den]
           rw [Sem.run_bind, hr]; rfl
          ·rw [flat_len hxt, htl, hkl]; simp
        ·trivial
       ·trivial
      ·trivial
     ·trivial
    ·trivial
   ·trivial
  ·trivial
 ·exact hold
theorem append_zeros {t u ty e : TypeId} {i : TypeInfo} {z : Value} {m : Int} (ht : P.underlying t = some (.slice e)) (hu : P.underlying u = some (.int .i64)) (hi : P.info? e = some i) (hz : i.zero = some z)
  (h1 : 1 ≤ m) (h2 : m ≤ 1000000) (hb : m * (i.bytes : Int) ≤ 281474976710656) (hfit : Builtin.nextslicecap m.toNat 0 * i.bytes ≤ 281474976710656) (hs : 0 < i.size) :
  (Builtin.append_ #[t, u] ty #[.slice none 0 0, .int .i64 m]).run P w = .ok (.slice (some ⟨w.heap.size, 0, none⟩) m.toNat (grownCap w m.toNat 0 e)) (w.drew.alloc (.cells (Builtin.zeroCells z.cells m.toNat ++ Builtin.zeroCells z.cells (grownCap w m.toNat 0 e - m.toNat)) e)) := by
 have hw : IntKind.i64.wrap m = m := wrap_in .i64 m (by show (-9223372036854775808 : Int) ≤ _; omega) (by show _ ≤ (9223372036854775807 : Int); omega)
 have h0 : ¬ m < 0 := by omega
 have hb' : ¬ (281474976710656 < m * (i.bytes : Int)) := by omega
 have hn0 : ¬ m.toNat = 0 := by omega
 have hs0 : ¬ i.size = 0 := by omega
 have h63' : ¬ (9223372036854775807 < m) := by omega
 have h48' : ¬ (281474976710656 < Builtin.nextslicecap m.toNat 0 * i.bytes) := by omega
 have hmx : max m 0 = m := by omega
 simp [Builtin.append_, run_underlying ht, run_underlying hu, sizeOf, typeInfo, zeroValue, hi, hz, asInt, asIntOf, hw, h0, hb', hn0, hs0, h63', h48', hmx, Question.forced, Builtin.firstCells, newRow, grownCap]
 rw [if_neg (by omega : ¬ m ≤ 0), if_neg (Nat.mul_ne_zero hn0 hs0)]
theorem growZ_ok (hT : T.Ok P) (hρ : ρ.Ok) (hp : Holds ρ pc) (hrom : RomOk T.orac b0 ρ) (H : HeapR ρ b0 h w) (hn : HNames nx h) {t u ty e : TypeId} {te : TI} (ht : P.underlying t = some (.slice e)) (hu : P.underlying u = some (.int .i64)) (hte : T.ty.get e = some te) (l : IE) :
  ORok P ρ b0 h nx w (do pure (.value (← Builtin.append_ #[t, u] ty #[.slice none 0 0, .int .i64 (l.den ρ)]))) (growZ T pc h nx e te l) := by
 obtain ⟨i', z, hi', hsz, hz, hzc, hby⟩ := (hT.ty _ te hte).info
 have hzl := (hT.ty _ te hte).zl
 unfold growZ
 split
 ·rename_i h3
  have h3' := Nat.le_of_ble_eq_true h3
  refine needO_ok hρ hp (fun d1 => needO_ok hρ hp (fun d2 => ?_))
  have g1 := le_t d1
  have g2 := le_t d2
  rw [lit_den] at g1 g2
  split
  ·rename_i ks hks
   split
   ·rename_i al hal
    split
    ·trivial
    ·rename_i hs0
     have hpos : 0 < te.size := Nat.pos_of_ne_zero (by simpa using hs0)
     obtain ⟨a1, a2⟩ := toAL_ok hρ hp hrom.typed _ _ _ hal
     have hkl : ks.length = te.size := by rw [kindsOf_length hks, hzl]
     have hbb : (l.den ρ) * (i'.bytes : Int) ≤ 281474976710656 := by
      have h5 : (l.den ρ).toNat * i'.bytes ≤ 1000000 * 1000000 := Nat.mul_le_mul (by omega) (by omega)
      have h4 : (((l.den ρ).toNat * i'.bytes : Nat) : Int) ≤ 281474976710656 := by omega
      rw [Int.natCast_mul] at h4
      rwa [show (((l.den ρ).toNat : Nat) : Int) = l.den ρ by omega] at h4
     have hfit : Builtin.nextslicecap (l.den ρ).toNat 0 * i'.bytes ≤ 281474976710656 := by
      refine growslice_fits (by omega) ?_
      have : (l.den ρ).toNat * i'.bytes ≤ 1000000 * 1000000 := Nat.mul_le_mul (by omega) (by omega)
      omega
     have hr := append_zeros (P := P) (w := w) (ty := ty) ht hu hi' hz g1 g2 hbb hfit (by omega)
     have hge := grownCap_ge w (l.den ρ).toNat 0 e
     have hmx := grownCap_le_maxLen w (l.den ρ).toNat 0 e (by simp [maxLen]; omega)
     have hrd : (LE.rep al l).den ρ = List.replicate (l.den ρ).toNat (SV.denL ρ te.zero) := by simp only [LE.den, a1]
     have hxt : Typed ks ((LE.rep al l).den ρ) := by rw [hrd]; exact .rep _ a2
     have htl : ((LE.rep al l).den ρ).length = (l.den ρ).toNat := by rw [hrd]; simp
     have hzs : z.cells.size = te.size := by rw [hzc ρ]; simp [denL_length, hzl]
     have hzz : Builtin.zeroCells z.cells (l.den ρ).toNat = ((LE.rep al l).den ρ).flatten.toArray := by
      have h6 : (Builtin.zeroCells z.cells (l.den ρ).toNat).toList = ((LE.rep al l).den ρ).flatten := by
       rw [hzc ρ, hrd]
       have := reps_get (SV.denL ρ te.zero) (l.den ρ).toNat
       simp only [Builtin.zeroCells]
       have h2 : (SV.denL ρ te.zero).toArray.size = (SV.denL ρ te.zero).length := by simp
       rw [h2]
       rw [h2] at this
       rw [this]
      rw [← h6]
     have hdrew : HeapR ρ b0 h w.drew := drewN_heap H
     rw [hzz] at hr
     refine newRowL_ok (c := .rep al l) (tot := l) (len := l) H hn (h0 := h) (fun k p hp => hp) (cap := grownCap w (l.den ρ).toNat 0 e) (rest := Builtin.zeroCells z.cells (grownCap w (l.den ρ).toNat 0 e - (l.den ρ).toNat)) (lo := 0) (hi := 0) (w' := w.drew.alloc (.cells (((LE.rep al l).den ρ).flatten.toArray ++ Builtin.zeroCells z.cells (grownCap w (l.den ρ).toNat 0 e - (l.den ρ).toNat)) e)) ⟨w.drew, hdrew, rfl, rfl, rfl, rfl, rfl, rfl⟩ ?_ (.inl (Nat.le_refl _)) ?_ hmx hpos hkl hxt (by rw [htl]; omega)
     ·rw [Sem.run_bind, hr]; rfl
     ·rw [flat_len hxt, htl, hkl, size_zeroCells, hzs, ← Nat.add_mul]
      congr 1; omega
   ·trivial
  ·trivial
 ·trivial
theorem symAppendZ_ok (hT : T.Ok P) (hρ : ρ.Ok) (hp : Holds ρ pc) (hrom : RomOk T.orac b0 ρ) (H : HeapR ρ b0 h w) (hn : HNames nx h) {t u ty : TypeId} {s x : SV} :
  ORok P ρ b0 h nx w (do pure (.value (← Builtin.append_ #[t, u] ty #[s.den ρ, x.den ρ]))) (symAppendZ T pc h nx t u s x) := by
 unfold symAppendZ
 split
 ·rename_i ti tu l hti htu
  obtain ⟨d, hd, hst, _⟩ := (hT.ty t ti hti).und
  obtain ⟨du, hdu, hsu, _⟩ := (hT.ty u tu htu).und
  split
  ·rename_i e he1 he2
   rw [he1] at hst
   rw [he2] at hsu
   simp only [StOk] at hst hsu
   subst hst hsu
   split
   ·rename_i te hte
    simp only [SV.den]
    refine splitO_ok hρ hp (fun _ => needO_ok hρ hp (fun _ => trivial)) (fun _ => ?_)
    exact growZ_ok hT hρ hp hrom H hn hd hdu hte l
   ·trivial
  ·trivial
 ·trivial
theorem flat_bytes : ∀ {l : LV}, Typed byteK l → l.flatten = (l.map fun c => intV (c.headD (.bool false))).map (Value.int .u8)
 | [], _ => rfl
 | e :: l, h => by
  obtain ⟨n, rfl, h0, h1⟩ := conf_byte_inv (h e (List.mem_cons_self ..))
  rw [List.flatten_cons, flat_bytes (h.sub fun x hx => List.mem_cons_of_mem _ hx)]
  rfl
theorem str_of_src {src dst e : TypeId} (hs : P.underlying src = some (.slice e)) (he : P.underlying e = some (.int .u8)) (hd : P.underlying dst = some .string) {x : SV} {s : LSrc} (hi : isSl x = true) (hS : SrcL P ρ b0 h 1 (x.den ρ) s) (hty : Typed byteK (s.l.den ρ)) (H : HeapR ρ b0 h w) :
  (do pure (.value (← convert src dst (x.den ρ))) : Sem Next).run P w = .ok (.value ((SV.lstr s.l).den ρ)) w := by
 have hsh : ∃ base k cap, x.den ρ = .slice base k cap := by
  unfold isSl at hi
  split at hi
  ·exact ⟨_, _, _, by simp only [SV.den]; rfl⟩
  ·exact ⟨_, _, _, by simp only [SV.den]; rfl⟩
  ·cases hi
 obtain ⟨base, k, cap, hx⟩ := hsh
 rw [hx] at hS ⊢
 have hk : k = (s.l.den ρ).length := by
  have := hS.lenOf w
  simpa [Builtin.lenOf] using this
 have hall := hS.all H
 have hfl : (s.l.den ρ).flatten.length = (s.l.den ρ).length := by rw [flat_len hty]; simp [byteK]
 rw [Sem.run_bind, run_convert_bytes_string w src dst e base k cap hs he hd]
 cases base with
 | none =>
  simp only [Builtin.firstCells, Sem.run_pure, Result.ok.injEq, and_true] at hall
  have : (s.l.den ρ).flatten = [] := by
   have := congrArg Array.toList hall
   simpa using this.symm
  have h0 : s.l.den ρ = [] := by
   rw [this] at hfl
   exact List.eq_nil_of_length_eq_zero hfl.symm
  simp [Conv.bytesToString, SV.den, h0, byteL, bytesOf]
  rfl
 | some ad =>
  simp only [Builtin.firstCells, Nat.mul_one] at hall
  rw [← hk, flat_bytes hty] at hall
  rw [run_bytesToString w ad k cap _ hall, foldl_bytes]
  simp only [SV.den, Result.andThen_ok, byteL, bytesOf]
  congr 3
  simp
theorem conv_okX (hT : T.Ok P) (hρ : ρ.Ok) (hp : Holds ρ pc) (hrom : RomOk T.orac b0 ρ) (H : HeapR ρ b0 h w) (hn : HNames nx h) (hsl : SlotsR ρ sl a.tmps) (src dst : TypeId) (x : Operand) :
  ORok P ρ b0 h nx w (do pure (.value (← convert src dst (a.eval x)))) (opConvX T pc h nx sl src dst x) := by
 have hold := conv_ok (P := P) hT hρ hp H hn hsl src dst x
 unfold opConvX
 split
 ·rw [ev_den hsl x]
  unfold convL
  split
  ·rename_i ts td hts htd
   obtain ⟨ds, hds, hss, _⟩ := (hT.ty src ts hts).und
   obtain ⟨dd, hdd, hsd, _⟩ := (hT.ty dst td htd).und
   split
   ·rename_i l hu1 hu2 he
    rw [hu1] at hss
    rw [hu2] at hsd
    simp only [StOk] at hss hsd
    subst hss; subst hsd
    rw [he]
    refine okSame H hn _ ?_ (fun m hm => by cases hm)
    simp [SV.den, convert, run_underlying hds, run_underlying hdd]
   ·rename_i e l hu1 hu2 he
    rw [hu1] at hss
    rw [hu2] at hsd
    simp only [StOk] at hss hsd
    subst hss; subst hsd
    rw [he]
    split
    ·rename_i te hte
     split
     ·rename_i hu3
      obtain ⟨de, hde, hse, _⟩ := (hT.ty e te hte).und
      rw [hu3] at hse
      simp only [StOk] at hse
      subst hse
      unfold bytesL1
      split
      ·rename_i htb
       have hty := typedB_ok hρ hp hrom.typed _ htb
       refine needO_ok hρ hp (fun d1 => ?_)
       have g1 := le_t d1
       rw [lenE_den hρ hp, lit_den] at g1
       have hr := run_bytes_of_string (P := P) w src dst e (byteL (l.den ρ)) hds hdd hde
       rw [byteL_size] at hr
       have hge := grownCap_ge w (l.den ρ).length 0 e
       have hmx := grownCap_le_maxLen w (l.den ρ).length 0 e (by simp [maxLen]; omega)
       have hfl : (l.den ρ).flatten.length = (l.den ρ).length := by rw [flat_len hty]; simp [byteK]
       have hsrc := srcL_ok (P := P) (x := .lstr l) (sz := 1) (s := ⟨lenE pc l, l, some byteK⟩) (h := h) (w := w) hρ hp hn hrom H (by simp [srcL, htb])
       have hfc := hsrc.all H
       have hcd : (byteL (l.den ρ)).data.map (fun b => Value.int .u8 b.toNat) = (l.den ρ).flatten.toArray := by
        have h2 := hfc
        simp only [Builtin.firstCells, SV.den, Sem.run_pure, Result.ok.injEq, and_true] at h2
        rw [← h2, ByteArray.data_extract]
        congr 1
        apply Array.ext'
        have : (byteL (l.den ρ)).data.size = (l.den ρ).length := by rw [← byteL_size]; rfl
        simp only [Array.toList_extract, List.extract_eq_drop_take, List.drop_zero, Nat.sub_zero]
        rw [List.take_of_length_le (by rw [Array.length_toList, this]; exact Nat.le_refl _)]
       have hcell : bytesRow (byteL (l.den ρ)) (grownCap w (l.den ρ).length 0 e) = (l.den ρ).flatten.toArray ++ Array.replicate (grownCap w (l.den ρ).length 0 e - (l.den ρ).length) (.int .u8 0) := by
        unfold bytesRow
        rw [hcd, byteL_size]
       have hlen : ((lenE pc l).den ρ).toNat = (l.den ρ).length := by rw [lenE_den hρ hp]; omega
       simp only [SV.den]
       refine newRowL_ok (c := l) (tot := lenE pc l) (len := lenE pc l) (ks := byteK) (sz := 1) H hn (h0 := h) (fun k p hp => hp) (cap := grownCap w (l.den ρ).length 0 e) (rest := Array.replicate (grownCap w (l.den ρ).length 0 e - (l.den ρ).length) (.int .u8 0)) (lo := (bytesRow (byteL (l.den ρ)) (grownCap w (l.den ρ).length 0 e)).size) (hi := (bytesRow (byteL (l.den ρ)) (grownCap w (l.den ρ).length 0 e)).size + 1)
        (w' := w.drew.alloc (.cells (bytesRow (byteL (l.den ρ)) (grownCap w (l.den ρ).length 0 e)) e ((bytesRow (byteL (l.den ρ)) (grownCap w (l.den ρ).length 0 e)).size, (bytesRow (byteL (l.den ρ)) (grownCap w (l.den ρ).length 0 e)).size + 1))) ⟨w.drew, drewN_heap H, rfl, ?_, rfl, rfl, rfl, rfl⟩ (by rw [Sem.run_bind, hr, hlen]; rfl) ?_ ?_ hmx (by decide) rfl hty (by rw [lenE_den hρ hp])
       ·show w.drew.heap.push _ = _
        rw [hcell]
       ·right
        rw [hcell, hfl]
        simp [hfl]
       ·rw [hfl]; simp; omega
      ·trivial
     ·trivial
    ·trivial
   ·rename_i e hu1 hu2
    rw [hu1] at hss
    rw [hu2] at hsd
    simp only [StOk] at hss hsd
    subst hss; subst hsd
    split
    ·rename_i te hte
     split
     ·rename_i hu3
      obtain ⟨de, hde, hse, _⟩ := (hT.ty e te hte).und
      rw [hu3] at hse
      simp only [StOk] at hse
      subst hse
      unfold strL1
      split
      ·rename_i hisl
       split
       ·rename_i len l ks hsrc
        have hS := srcL_ok (P := P) hρ hp hn hrom H hsrc
        split
        ·rename_i hk
         have hk' := isByteK_eq hk
         subst hk'
         have hty := (hS.ty _ rfl).1
         refine okSame H hn _ ?_ (fun m hm => by cases hm)
         exact str_of_src hds hde hdd hisl hS hty H
        ·trivial
       ·exact splitX_ok
      ·trivial
     ·trivial
    ·trivial
   ·trivial
  ·trivial
 ·exact hold
theorem newArr_ok (H : HeapR ρ b0 h w) (hn : HNames nx h) {S : Sem Next} {c : LE} {tot : IE} {ks : List CK} {e : TypeId} {sz cap : Nat}
  (hr : S.run P w = .ok (.value (.pointer (some ⟨w.heap.size, 0, none⟩))) (w.alloc (.cells (c.den ρ).flatten.toArray e))) (hcap : (c.den ρ).flatten.length = cap * sz) (hmax : cap ≤ maxLen) (hpos : 0 < sz)
  (hks : ks.length = sz) (ht : Typed ks (c.den ρ)) (htot : tot.den ρ = ((c.den ρ).length : Int)) :
  ORok P ρ b0 h nx w S (.val (.ptr nx 0) ((nx, .rowl c tot ks e (nx + 1) sz) :: h) (nx + 2)) := by
 have g := ρ.set2_agr nx w.heap.size cap
 refine ⟨ρ.set2 nx w.heap.size cap, w.alloc (.cells (c.den ρ).flatten.toArray e), _, hr, .inl ?_, Move.row H hn (fun k p hp => hp) ?_ ?_ (.inl (Nat.le_refl _)) (obj := .cells (c.den ρ).flatten.toArray e) ?_ ?_ ?_ ?_ ?_, ?_⟩
 ·simp [SV.den, Rho.set2_a]
 ·refine ⟨⟨H.g0.os, H.g0.tape, H.g0.output, by show _ ≤ (w.heap.push _).size; simp; exact Nat.le_succ_of_le H.g0.size, fun k hk hne => ?_⟩, H.g0.dr⟩
  have := H.g0.size
  show (w.heap.push _)[k]? = _
  rw [Array.getElem?_push_lt (by omega), ← Array.getElem?_eq_getElem]
  exact H.g0.block k hk hne
 ·show _ ≤ (w.heap.push _).size
  simp
 ·show (w.heap.push _)[_]? = _
  simp
 ·intro k p hp
  have := H.lt hp
  show (w.heap.push _)[_]? = _
  rw [Array.getElem?_push_lt this, ← Array.getElem?_eq_getElem]
 ·intro k hk _
  show (w.heap.push _)[_]? = _
  rw [Array.getElem?_push_lt hk, ← Array.getElem?_eq_getElem]
 ·refine ⟨#[], 0, 0, by rw [LE.den_agr g]; simp, .inl (Nat.le_refl _), by rw [LE.den_agr g, Rho.set2_c]; simpa using hcap, by rw [Rho.set2_c]; exact hmax, hpos, hks, by rw [LE.den_agr g]; exact ht, by rw [LE.den_agr g, IE.den_agr g]; exact htot⟩
 ·intro m hm
  simp only [SObj.names, List.mem_cons, List.not_mem_nil, or_false] at hm
  omega
 ·intro m hm
  simp only [SV.names, List.mem_cons, List.not_mem_nil, or_false] at hm
  omega
theorem allocX_ok (hT : T.Ok P) (hρ : ρ.Ok) (H : HeapR ρ b0 h w) (hn : HNames nx h) (t : TypeId) : ORok P ρ b0 h nx w (do pure (.value (← Instr.alloc t true (.tuple #[])))) (opAllocX T h nx t) := by
 unfold opAllocX
 split
 ·rename_i len ti te hl
  unfold arrLong at hl
  split at hl
  ·rename_i ti' hti
   split at hl
   ·rename_i len' e hu
    split at hl
    ·cases hl
    ·split at hl
     ·rename_i te' hte
      cases hl
      unfold arrNew
      split
      ·rename_i hmx
       have hmx' := Nat.le_of_ble_eq_true hmx
       split
       ·rename_i ks hks
        split
        ·rename_i al hal
         split
         ·trivial
         ·rename_i hs0
          split
          ·rename_i hz
           have hz' := SV.beqL_eq _ _ hz
           have hpos : 0 < te.size := Nat.pos_of_ne_zero (by simpa using hs0)
           obtain ⟨a1, a2⟩ := toAL_ok hρ (pc := []) (fun p hp => by cases hp) (roms := []) (fun r esz ks h => by rw [lk_nil] at h; cases h) _ _ _ hal
           have hzl := (hT.ty _ te hte).zl
           have hkl : ks.length = te.size := by rw [kindsOf_length hks, hzl]
           have hty := hT.ty t ti hti
           obtain ⟨i, z, hi, _, hzz, hc, _⟩ := hty.info
           have hrd : (LE.rep al (.lit (len : Nat))).den ρ = List.replicate len (SV.denL ρ te.zero) := by simp only [LE.den, a1, IE.den, Int.toNat_natCast]
           have hxt : Typed ks ((LE.rep al (.lit (len : Nat))).den ρ) := by rw [hrd]; exact .rep _ a2
           have hfl : ((LE.rep al (.lit (len : Nat))).den ρ).flatten = SV.denL ρ ti.zero := by rw [hrd, hz', reps_den]
           refine newArr_ok (cap := len) H hn ?_ ?_ (by simp only [maxLen]; omega) hpos hkl hxt (by rw [hrd]; simp [IE.den])
           ·rw [hfl]
            simp [Instr.alloc, run_zeroOf hi hzz, newVar, newRow, hc ρ]
           ·rw [flat_len hxt, hrd, hkl]; simp
          ·trivial
        ·trivial
       ·trivial
      ·trivial
     ·cases hl
   ·cases hl
  ·cases hl
 ·exact alloc_ok hT H hn t
theorem iaL_ok (hT : T.Ok P) (hρ : ρ.Ok) (hp : Holds ρ pc) (hrom : RomOk T.orac b0 ρ) (H : HeapR ρ b0 h w) (hn : HNames nx h) (hsl : SlotsR ρ sl a.tmps) (hs : SNames nx sl) (t : TypeId) (x i : Operand) :
  ORok P ρ b0 h nx w (do pure (.value (← Instr.indexAt t (a.eval x) (a.eval i)))) (opIAL T pc h nx sl t x i) := by
 have hold := ia_ok (w := w) hT hρ hp hrom H hn hsl hs t x i
 have hx := ev_names hs x
 unfold opIAL
 split
 ·rename_i n k e he hi
  split
  ·rw [ev_den hsl x, ev_den hsl i, he, hi]
   rw [he] at hx
   unfold arrAddr
   split
   ·rename_i ti c tot ks u cn zs hti hlk
    obtain ⟨d, hd, hst, _⟩ := (hT.ty t ti hti).und
    split
    ·rename_i len el hu
     rw [hu] at hst
     simp only [StOk] at hst
     subst hst
     split
     ·rename_i te hte
      obtain ⟨i', z, hi', hsz, _, _, _⟩ := (hT.ty _ te hte).info
      split
      ·rename_i hz
       have hz' : te.size = zs := by simpa using hz
       refine needO_ok hρ hp (fun hd0 => needO_ok hρ hp (fun hd1 => ?_))
       have g0 := le_t hd0
       have g1 := nle_t hd1
       rw [lit_den] at g0 g1
       refine okSame H hn _ ?_ (fun m hm => hx m (by simp [SV.names] at hm ⊢; exact hm))
       have g4 : e.den ρ < (len : Int) := by omega
       simp only [Instr.indexAt, SV.den]
       simp only [asIntOf, Sem.run_bind, run_underlying hd, Result.andThen_ok, Sem.run_pure, Instr.sureAddr, g0, g4, and_self, if_true, run_sizeOf' hi', hsz, hz', addr_add', Nat.zero_add, Nat.add_zero]
      ·trivial
     ·trivial
    ·trivial
   ·trivial
  ·exact hold
 ·exact hold
theorem iaX_ok (hT : T.Ok P) (hρ : ρ.Ok) (hp : Holds ρ pc) (hrom : RomOk T.orac b0 ρ) (H : HeapR ρ b0 h w) (hn : HNames nx h) (hsl : SlotsR ρ sl a.tmps) (hs : SNames nx sl) (t : TypeId) (x i : Operand) :
  ORok P ρ b0 h nx w (do pure (.value (← Instr.indexAt t (a.eval x) (a.eval i)))) (opIAX T pc h nx sl t x i) := by
 have hold := iaL_ok (w := w) hT hρ hp hrom H hn hsl hs t x i
 have hx := ev_names hs x
 unfold opIAX
 split
 ·rename_i n off k e he hi
  split
  ·rw [ev_den hsl x, ev_den hsl i, he, hi]
   rw [he] at hx
   unfold mixAddr
   split
   ·rename_i ti pre l k' _ _ _ hti hlk
    obtain ⟨d, hd, hst, _⟩ := (hT.ty t ti hti).und
    split
    ·rename_i len el hu
     rw [hu] at hst
     simp only [StOk] at hst
     subst hst
     split
     ·rename_i te hte
      obtain ⟨i', z, hi', hsz, _, _, _⟩ := (hT.ty _ te hte).info
      split
      ·rename_i hz
       have hz' : te.size = 1 := by simpa using hz
       split
       ·refine needO_ok hρ hp (fun hd0 => needO_ok hρ hp (fun hd1 => ?_))
        have g0 := le_t hd0
        have g1 := nle_t hd1
        rw [lit_den] at g0 g1
        refine okSame H hn _ ?_ (fun m hm => hx m (by simp [SV.names] at hm ⊢; exact hm))
        have g4 : e.den ρ < (len : Int) := by omega
        simp only [Instr.indexAt, SV.den]
        simp only [asIntOf, Sem.run_bind, run_underlying hd, Result.andThen_ok, Sem.run_pure, Instr.sureAddr, g0, g4, and_self, if_true, run_sizeOf' hi', hsz, hz', addr_add', Nat.zero_add, Nat.add_zero]
        rw [Nat.add_comm off]
       ·trivial
      ·trivial
     ·trivial
    ·trivial
   ·trivial
  ·exact hold
 ·exact hold
end
end Go.Proofs.Ythenenacmiiphaa.Sx
namespace Go.Proofs.Ythenenacmiiphaa.Sx
open Go
section
variable {P : Program} {T : Tab} {ρ : Rho} {b0 : World} {pc : List BE} {h : SHeap} {nx : Nat} {w : World} {sl : Slots} {a : Act} {S : Sem Next}
theorem needS_ok (hρ : ρ.Ok) (hp : Holds ρ pc) {c : BE} {k : SR} {m : Nat} {o n : IE} {e : Option IE} (h : needS pc c k m = .ok o n e) : c.den ρ = true ∧ k = .ok o n e := by
 unfold needS at h
 split at h
 ·rename_i hd; exact ⟨dec_den hρ hp _ _ hd, h⟩
 ·cases h
 ·cases h
def Ov (ρ : Rho) : Option IE → Option Value → Prop
 | none, v => v = none
 | some e, v => ∃ k, v = some (.int k (e.den ρ))
theorem bound_i (k : IntKind) (n : Int) (y : Nat) (c : BoundsCode) (h0 : 0 ≤ n) (h : n ≤ y) : (Instr.sliceBound (.int k n) y c).run P w = .ok n.toNat w := by
 simp [Instr.sliceBound, asIntOf, h0, h]
theorem offS_ok (hρ : ρ.Ok) (hp : Holds ρ pc) {off len m l u o n : IE} {c : Option IE} (h : offS pc off len m l u = .ok o n c) (h0 : 0 ≤ l.den ρ) (h1 : 0 ≤ m.den ρ) :
  n.den ρ = u.den ρ - l.den ρ ∧ (o.den ρ = off.den ρ + (if m.den ρ = l.den ρ then 0 else l.den ρ)) ∧ ∃ e, c = some e ∧ e.den ρ = m.den ρ - l.den ρ := by
 unfold offS at h
 split at h
 ·cases h
  have z0 : (IE.lit (.ofNat 0)).den ρ = 0 := by simp [IE.den]
  exact ⟨by rw [z0]; omega, by rw [z0]; split <;> omega, _, rfl, by rw [z0]; omega⟩
 ·split at h
  ·rename_i hd
   have := dec_eq hρ hp hd
   cases h
   exact ⟨subE_den _ _, by rw [if_pos this]; omega, _, rfl, by rw [lit_den]; omega⟩
  ·rename_i hd
   have := dec_ne hρ hp hd
   cases h
   exact ⟨subE_den _ _, by rw [if_neg this, addE_den], _, rfl, subE_den _ _⟩
  ·cases h
theorem sliceE_ok (hρ : ρ.Ok) (hp : Holds ρ pc) {off len room : IE} {cap alt : Option IE} {lo hi mx : Option IE} {o n : IE} {c : Option IE} (h : sliceE pc off len room cap alt lo hi mx = .ok o n c) {C : Nat} (hcap : ∀ e, cap = some e → 0 ≤ e.den ρ → C = (e.den ρ).toNat) (hroom : 0 ≤ off.den ρ → room.den ρ ≤ (C : Int))
  (hsome : ∀ e, cap = some e → room = e) (halt : ∀ e, alt = some e → cap = none → 0 ≤ room.den ρ → e.den ρ = (C : Int)) {lv hv mv : Option Value} (hl : Ov ρ lo lv) (hh : Ov ρ hi hv) (hm : Ov ρ mx mv) :
  0 ≤ off.den ρ ∧ ∃ l u m : Nat, (Instr.sliceBounds true (len.den ρ).toNat C lv hv mv).run P w = .ok (l, u, m) w ∧ l ≤ u ∧ u ≤ m ∧ m ≤ C ∧ n.den ρ = (u : Int) - l ∧ o.den ρ = off.den ρ + (if m = l then 0 else (l : Int)) ∧ (∀ e, c = some e → e.den ρ = (m : Int) - l) ∧ (c = none → cap = none ∧ m = C ∧ o.den ρ = off.den ρ + (l : Int)) := by
 unfold sliceE at h
 obtain ⟨d0, h⟩ := needS_ok hρ hp h
 have g0 := le_t d0
 rw [lit_den] at g0
 have hroom := hroom g0
 refine ⟨g0, ?_⟩
 cases mx with
 | some m =>
  simp only [] at h
  obtain ⟨d1, h⟩ := needS_ok hρ hp h
  obtain ⟨d2, h⟩ := needS_ok hρ hp h
  obtain ⟨d3, h⟩ := needS_ok hρ hp h
  obtain ⟨d4, h⟩ := needS_ok hρ hp h
  obtain ⟨d5, h⟩ := needS_ok hρ hp h
  obtain ⟨d6, h⟩ := needS_ok hρ hp h
  have g1 := le_t d1
  have g2 := le_t d2
  have g3 := le_t d3
  have g4 := le_t d4
  have g5 := le_t d5
  have g6 := le_t d6
  rw [lit_den] at g1 g3 g5
  cases hi with
  | none => cases h
  | some u =>
   simp only [orE] at g3 g4 g6 h
   obtain ⟨km, hm⟩ := hm
   obtain ⟨ku, hh⟩ := hh
   subst hm; subst hh
   cases lo with
   | none =>
    simp only [Ov] at hl
    subst hl
    simp only [orE] at h
    obtain ⟨q1, q2, e, q3, q4⟩ := offS_ok hρ hp h (by rw [lit_den]; omega) g1
    rw [lit_den] at q1 q2 q4
    refine ⟨0, (u.den ρ).toNat, (m.den ρ).toNat, ?_, by omega, by omega, by omega, by omega, ?_, fun e' he' => by rw [q3] at he'; cases he'; omega, fun hc => by rw [q3] at hc; cases hc⟩
    ·simp [Instr.sliceBounds, bound_i km _ C _ g1 (by omega), bound_i ku _ (m.den ρ).toNat _ g3 (by omega)]
    ·rw [q2]; split <;> split <;> omega
   | some l =>
    obtain ⟨kl, hl⟩ := hl
    subst hl
    simp only [orE] at h g5 g6
    obtain ⟨q1, q2, e, q3, q4⟩ := offS_ok hρ hp h g5 g1
    refine ⟨(l.den ρ).toNat, (u.den ρ).toNat, (m.den ρ).toNat, ?_, by omega, by omega, by omega, by omega, ?_, fun e' he' => by rw [q3] at he'; cases he'; omega, fun hc => by rw [q3] at hc; cases hc⟩
    ·simp [Instr.sliceBounds, bound_i km _ C _ g1 (by omega), bound_i ku _ (m.den ρ).toNat _ g3 (by omega), bound_i kl _ (u.den ρ).toNat _ g5 (by omega)]
    ·rw [q2]; split <;> split <;> omega
 | none =>
  simp only [Ov] at hm
  subst hm
  simp only [] at h
  obtain ⟨d3, h⟩ := needS_ok hρ hp h
  obtain ⟨d4, h⟩ := needS_ok hρ hp h
  obtain ⟨d5, h⟩ := needS_ok hρ hp h
  obtain ⟨d6, h⟩ := needS_ok hρ hp h
  have g3 := le_t d3
  have g4 := le_t d4
  have g5 := le_t d5
  have g6 := le_t d6
  rw [lit_den] at g3 g5
  have run : ∀ (U L : Nat), (U : Int) = (orE len hi).den ρ → (L : Int) = (orE (.lit 0) lo).den ρ → (Instr.sliceBounds true (len.den ρ).toNat C lv hv none).run P w = .ok (L, U, C) w := by
   intro U L hU hL
   cases hi with
   | none =>
    simp only [Ov] at hh
    subst hh
    simp only [orE] at hU g3 g4 g6
    have hU' : (len.den ρ).toNat = U := by omega
    cases lo with
    | none =>
     simp only [Ov] at hl
     subst hl
     simp only [orE, lit_den] at hL
     have : L = 0 := by omega
     subst this
     simp [Instr.sliceBounds, hU']
    | some l =>
     obtain ⟨kl, hl⟩ := hl
     subst hl
     simp only [orE] at hL g5 g6
     have : (l.den ρ).toNat = L := by omega
     simp [Instr.sliceBounds, hU', bound_i kl _ U _ g5 (by omega), this]
   | some u =>
    obtain ⟨ku, hh⟩ := hh
    subst hh
    simp only [orE] at hU g3 g4 g6
    have hU' : (u.den ρ).toNat = U := by omega
    cases lo with
    | none =>
     simp only [Ov] at hl
     subst hl
     simp only [orE, lit_den] at hL
     have : L = 0 := by omega
     subst this
     simp [Instr.sliceBounds, hU', bound_i ku _ C _ g3 (by omega)]
    | some l =>
     obtain ⟨kl, hl⟩ := hl
     subst hl
     simp only [orE] at hL g5 g6
     have : (l.den ρ).toNat = L := by omega
     simp [Instr.sliceBounds, hU', bound_i ku _ C _ g3 (by omega), bound_i kl _ U _ g5 (by omega), this]
  obtain ⟨U, hU⟩ : ∃ U : Nat, (U : Int) = (orE len hi).den ρ := ⟨((orE len hi).den ρ).toNat, by omega⟩
  obtain ⟨L, hL⟩ : ∃ L : Nat, (L : Int) = (orE (.lit 0) lo).den ρ := ⟨((orE (.lit 0) lo).den ρ).toNat, by omega⟩
  refine ⟨L, U, C, run U L hU hL, by omega, by omega, Nat.le_refl _, ?_⟩
  cases lo with
  | none =>
   simp only [] at h
   cases h
   simp only [orE, lit_den] at hL
   have : L = 0 := by omega
   subst this
   refine ⟨by omega, by simp, fun e he => ?_, fun hc => ⟨hc, rfl, by simp⟩⟩
   have := hsome e he
   subst this
   have := hcap _ he (by omega)
   omega
  | some l =>
   simp only [orE] at hL g5 g6
   simp only [] at h
   cases cap with
   | some e =>
    simp only [] at h
    have hr := hsome e rfl
    subst hr
    have hC := hcap _ rfl (by omega)
    obtain ⟨q1, q2, e', q3, q4⟩ := offS_ok hρ hp h g5 (by omega)
    refine ⟨by omega, ?_, fun e2 he2 => by rw [q3] at he2; cases he2; omega, fun hc => by rw [q3] at hc; cases hc⟩
    rw [q2]; split <;> split <;> omega
   | none =>
    simp only [] at h
    split at h
    ·cases h
     have z0 : (IE.lit (.ofNat 0)).den ρ = 0 := by simp [IE.den]
     rw [z0] at hL
     have : L = 0 := by omega
     subst this
     exact ⟨by omega, by simp, (fun e he => by cases he), fun hc => ⟨rfl, rfl, by simp⟩⟩
    ·have arm : ∀ c', alt = some c' → SR.ok (.ite (.eq c' l) off (addE off l)) (subE (orE len hi) l) (some (subE c' l)) = .ok o n c →
       n.den ρ = (U : Int) - L ∧ o.den ρ = off.den ρ + (if C = L then 0 else (L : Int)) ∧ (∀ e, c = some e → e.den ρ = (C : Int) - L) ∧ (c = none → (none : Option IE) = none ∧ C = C ∧ o.den ρ = off.den ρ + (L : Int)) := by
      intro c' hc' he
      cases he
      have ha := halt c' hc' rfl (by omega)
      refine ⟨by rw [subE_den]; omega, ?_, fun e he => by cases he; rw [subE_den]; omega, fun hc => by cases hc⟩
      simp only [IE.den, BE.den, addE_den]
      split <;> split <;> simp_all <;> omega
     split at h
     ·rename_i hd
      have := dec_lt hρ hp hd
      cases h
      refine ⟨by rw [subE_den]; omega, by rw [addE_den, if_neg (by omega)]; omega, (fun e he => by cases he), fun hc => ⟨rfl, rfl, by rw [addE_den]; omega⟩⟩
     ·split at h
      ·exact arm _ rfl h
      ·cases h
     ·split at h
      ·exact arm _ rfl h
      ·cases h
theorem needS_emp (hρ : ρ.Ok) (hp : Holds ρ pc) {c : BE} {k : SR} {m : Nat} {o n : IE} (h : needS pc c k m = .emp o n) : c.den ρ = true ∧ k = .emp o n := by
 unfold needS at h
 split at h
 ·rename_i hd; exact ⟨dec_den hρ hp _ _ hd, h⟩
 ·cases h
 ·cases h
theorem offS_emp {off len m l u o n : IE} : offS pc off len m l u ≠ .emp o n := by
 intro h
 unfold offS at h
 split at h
 ·cases h
 ·split at h <;> cases h
theorem sliceE_emp (hρ : ρ.Ok) (hp : Holds ρ pc) {off len room : IE} {cap alt : Option IE} {lo hi mx : Option IE} {o n : IE} (h : sliceE pc off len room cap alt lo hi mx = .emp o n) {C : Nat} (hroom : 0 ≤ off.den ρ → room.den ρ ≤ (C : Int))
  {lv hv mv : Option Value} (hl : Ov ρ lo lv) (hh : Ov ρ hi hv) (hm : Ov ρ mx mv) :
  0 ≤ off.den ρ ∧ cap = none ∧ o = off ∧ 0 ≤ n.den ρ ∧ (n.den ρ).toNat ≤ C ∧ (Instr.sliceBounds true (len.den ρ).toNat C lv hv mv).run P w = .ok ((n.den ρ).toNat, (n.den ρ).toNat, C) w := by
 unfold sliceE at h
 obtain ⟨d0, h⟩ := needS_emp hρ hp h
 have g0 := le_t d0
 rw [lit_den] at g0
 have hroom := hroom g0
 refine ⟨g0, ?_⟩
 cases mx with
 | some m =>
  simp only [] at h
  obtain ⟨d1, h⟩ := needS_emp hρ hp h
  obtain ⟨d2, h⟩ := needS_emp hρ hp h
  obtain ⟨d3, h⟩ := needS_emp hρ hp h
  obtain ⟨d4, h⟩ := needS_emp hρ hp h
  obtain ⟨d5, h⟩ := needS_emp hρ hp h
  obtain ⟨d6, h⟩ := needS_emp hρ hp h
  cases hi with
  | none => cases h
  | some u => exact absurd h offS_emp
 | none =>
  simp only [Ov] at hm
  subst hm
  simp only [] at h
  obtain ⟨d3, h⟩ := needS_emp hρ hp h
  obtain ⟨d4, h⟩ := needS_emp hρ hp h
  obtain ⟨d5, h⟩ := needS_emp hρ hp h
  obtain ⟨d6, h⟩ := needS_emp hρ hp h
  have g3 := le_t d3
  have g4 := le_t d4
  have g5 := le_t d5
  have g6 := le_t d6
  rw [lit_den] at g3 g5
  cases lo with
  | none => cases h
  | some l =>
   obtain ⟨kl, hl⟩ := hl
   subst hl
   change 0 ≤ l.den ρ at g5
   change l.den ρ ≤ (orE len hi).den ρ at g6
   simp only [] at h
   cases cap with
   | some e => exact absurd h offS_emp
   | none =>
    simp only [] at h
    split at h
    ·cases h
    ·split at h
     ·cases h
     ·rename_i hd
      have hrl := dec_le hρ hp hd
      split at h
      ·cases h
      ·cases h
       refine ⟨rfl, rfl, g5, by omega, ?_⟩
       cases hi with
       | none =>
        simp only [Ov] at hh
        subst hh
        change (len).den ρ ≤ room.den ρ at g4
        change n.den ρ ≤ len.den ρ at g6
        simp [Instr.sliceBounds, bound_i kl _ (len.den ρ).toNat _ g5 (by omega)]
        omega
       | some u =>
        obtain ⟨ku, hh⟩ := hh
        subst hh
        change 0 ≤ u.den ρ at g3
        change u.den ρ ≤ room.den ρ at g4
        change n.den ρ ≤ u.den ρ at g6
        simp [Instr.sliceBounds, bound_i ku _ C _ g3 (by omega), bound_i kl _ (u.den ρ).toNat _ g5 (by omega)]
        omega
     ·split at h <;> cases h
theorem intE_ok (hsl : SlotsR ρ sl a.tmps) {x : Option Operand} {e : Option IE} (h : intE sl x = some e) : Ov ρ e (x.map a.eval) := by
 cases x with
 | none => simp only [intE, Option.some.injEq] at h; subst h; rfl
 | some y =>
  simp only [intE] at h
  split at h
  ·rename_i k f hf
   cases h
   exact ⟨k, by simp [ev_den hsl, hf, SV.den]⟩
  ·cases h
theorem addr_add2 (a : Addr) (m n : Nat) : (a.add m).add n = a.add (m + n) := by
 obtain ⟨b, o, s⟩ := a
 unfold Addr.add
 by_cases hm : m = 0 <;> by_cases hn : n = 0 <;> simp [hm, hn, Nat.add_assoc]
theorem winStr_ok (hρ : ρ.Ok) (hp : Holds ρ pc) (hr : RTyped T.orac.rom ρ) (H : HeapR ρ b0 h w) (hn : HNames nx h) {t : TypeId} (ht : P.underlying t = some .string) {l : LE} {lo hi : Option IE} {lv hv : Option Value} (hl : Ov ρ lo lv) (hh : Ov ρ hi hv) {s : ByteArray} (hs : s = byteL (l.den ρ)) :
  ORok P ρ b0 h nx w (do pure (.value (← Instr.sliceAt t (.string s) lv hv none))) (winStr T.orac.rom pc h nx l lo hi) := by
 subst hs
 unfold winStr
 split
 ·rename_i htb
  refine needO_ok hρ hp (fun d3 => needO_ok hρ hp (fun d4 => needO_ok hρ hp (fun d5 => needO_ok hρ hp (fun d6 => ?_))))
  have g3 := le_t d3
  have g4 := le_t d4
  have g5 := le_t d5
  have g6 := le_t d6
  rw [lit_den] at g3 g5
  have hle := lenE_den hρ hp l
  rw [hle] at g4
  refine okSame H hn _ ?_ (fun m hm => by cases hm)
  obtain ⟨U, hU⟩ : ∃ U : Nat, (U : Int) = (orE (lenE pc l) hi).den ρ := ⟨((orE (lenE pc l) hi).den ρ).toNat, by omega⟩
  obtain ⟨L, hL⟩ : ∃ L : Nat, (L : Int) = (orE (.lit 0) lo).den ρ := ⟨((orE (.lit 0) lo).den ρ).toNat, by omega⟩
  have run : (Instr.sliceBounds false (l.den ρ).length (l.den ρ).length lv hv none).run P w = .ok (L, U, (l.den ρ).length) w := by
   cases hi with
   | none =>
    simp only [Ov] at hh
    subst hh
    simp only [orE] at hU g3 g4 g6
    rw [hle] at hU
    have hU' : (l.den ρ).length = U := by omega
    cases lo with
    | none =>
     simp only [Ov] at hl
     subst hl
     simp only [orE, lit_den] at hL
     have : L = 0 := by omega
     subst this
     simp [Instr.sliceBounds, hU']
    | some l' =>
     obtain ⟨kl, hl⟩ := hl
     subst hl
     simp only [orE] at hL g5 g6
     have : (l'.den ρ).toNat = L := by omega
     simp [Instr.sliceBounds, hU', bound_i kl _ U _ g5 (by omega), this]
   | some u =>
    obtain ⟨ku, hh⟩ := hh
    subst hh
    simp only [orE] at hU g3 g4 g6
    have hU' : (u.den ρ).toNat = U := by omega
    cases lo with
    | none =>
     simp only [Ov] at hl
     subst hl
     simp only [orE, lit_den] at hL
     have : L = 0 := by omega
     subst this
     simp [Instr.sliceBounds, hU', bound_i ku _ (l.den ρ).length _ g3 g4]
    | some l' =>
     obtain ⟨kl, hl⟩ := hl
     subst hl
     simp only [orE] at hL g5 g6
     have : (l'.den ρ).toNat = L := by omega
     simp [Instr.sliceBounds, hU', bound_i ku _ (l.den ρ).length _ g3 g4, bound_i kl _ U _ g5 (by omega), this]
  have hw : (winL l (lenE pc l) (orE (.lit 0) lo) (subE (orE (lenE pc l) hi) (orE (.lit 0) lo))).den ρ = ((l.den ρ).drop L).take (U - L) := by
   rw [winL_den hle, subE_den, ← hU, ← hL]
   congr 1
   omega
  have hex : (byteL (l.den ρ)).extract L U = byteL (((l.den ρ).drop L).take (U - L)) := by
   unfold byteL bytesOf
   apply ByteArray.ext
   rw [ByteArray.data_extract]
   apply Array.ext'
   simp [List.map_drop, List.map_take, List.drop_take]
  simp [Instr.sliceAt, Instr.slice, run_underlying ht, SV.den, byteL_size, run, hex, hw]
 ·trivial
theorem sliceX_ok (hT : T.Ok P) (hρ : ρ.Ok) (hp : Holds ρ pc) (hrom : RomOk T.orac b0 ρ) (H : HeapR ρ b0 h w) (hn : HNames nx h) (hsl : SlotsR ρ sl a.tmps) (hs : SNames nx sl) (t : TypeId) (x : Operand) (lo hi mx : Option Operand) :
  ORok P ρ b0 h nx w (do pure (.value (← Instr.sliceAt t (a.eval x) (lo.map a.eval) (hi.map a.eval) (mx.map a.eval)))) (opSliceX T pc h nx sl t x lo hi mx) := by
 have hold := slice_ok (P := P) hT H hn hsl hs t x lo hi mx
 have hx := ev_names hs x
 unfold opSliceX
 split
 ·split
  ·rename_i ti l u m hti hl hu hm
   have ol := intE_ok hsl hl
   have ou := intE_ok hsl hu
   have om := intE_ok hsl hm
   obtain ⟨d, hd, hst, _⟩ := (hT.ty t ti hti).und
   unfold opSliceL
   rw [ev_den hsl x]
   split
   ·rename_i e r off len cap hu1 he
    rw [hu1] at hst
    simp only [StOk] at hst
    subst hst
    rw [he] at hx ⊢
    split
    ·rename_i te esz ks hte hr
     obtain ⟨i', z, hi', hsz, _, _, _⟩ := (hT.ty _ te hte).info
     obtain ⟨r0, r1, r2, r3, r4, r5⟩ := hrom.2 r esz ks hr
     split
     ·rename_i hz
      have hz' : te.size = esz := by simpa using hz
      split
      ·rename_i o n c hS
       have hoff := resI_den hρ hp off
       have hlr : (IE.len (.rom r)).den ρ = ((ρ.z.rl r).length : Int) := by simp only [IE.den, LE.den, lenV]
       obtain ⟨g0, l', u', m', q1, q2, q3, q3b, q4, q5, q6, q7⟩ := sliceE_ok (P := P) (w := w) hρ hp hS (C := capDen ρ (ρ.z.rc r - (off.den ρ).toNat) cap) (fun e he h0 => by subst he; rfl) (fun h00 => by
        rw [hoff] at h00
        cases cap with
        | none =>
         simp only [roomOf, capDen]
         rw [subE_den, hoff, hlr]
         omega
        | some e => simp only [roomOf, capDen]; omega) (fun e he => by subst he; rfl) (fun e he hc hr0 => by
        cases he
        subst hc
        simp only [roomOf] at hr0
        rw [subE_den, hoff, hlr] at hr0
        simp only [capDen]
        rw [subE_den, hoff]
        have hrc : (IE.rcap r).den ρ = (ρ.z.rc r : Int) := by simp only [IE.den]
        have h0 : 0 ≤ off.den ρ := by
         unfold sliceE at hS
         have := le_t (needS_ok hρ hp hS).1
         rw [lit_den, hoff] at this; exact this
        rw [hrc]; omega) ol ou om
       refine okSame H hn _ ?_ (fun m hm => by cases hm)
       rw [hoff] at g0 q5 q7
       have hn0 : (n.den ρ).toNat = u' - l' := by omega
       simp only [Instr.sliceAt, Instr.slice, SV.den, Sem.run_bind, run_underlying hd, Result.andThen_ok, q1, run_sizeOf' hi', Sem.run_pure, hsz, hn0]
       have hcp : capDen ρ (ρ.z.rc r - (o.den ρ).toNat) c = m' - l' := by
        cases c with
        | none =>
         obtain ⟨e1, e2, e3⟩ := q7 rfl
         subst e1
         simp only [capDen] at e2 ⊢
         omega
        | some e => have := q6 e rfl; simp only [capDen]; omega
       have hpt : (if m' = l' then (ρ.z.ra r).map (fun a => a.add ((off.den ρ).toNat * ρ.z.re r)) else ((ρ.z.ra r).map (fun a => a.add ((off.den ρ).toNat * ρ.z.re r))).map (fun a => a.add (l' * te.size))) = (ρ.z.ra r).map (fun a => a.add ((o.den ρ).toNat * ρ.z.re r)) := by
        by_cases hml : m' = l'
        ·rw [if_pos hml]
         rw [if_pos hml] at q5
         rw [show o.den ρ = off.den ρ by omega]
        ·rw [if_neg hml]
         rw [if_neg hml] at q5
         cases hra : ρ.z.ra r with
         | none => rfl
         | some ad =>
          simp only [Option.map_some]
          rw [addr_add2, r1, hz', ← Nat.add_mul]
          rw [show (o.den ρ).toNat = (off.den ρ).toNat + l' by omega]
       rw [hcp, hpt]
      ·trivial
      ·trivial
      ·trivial
     ·trivial
    ·trivial
   ·rename_i e n cn z off len cap hu1 he
    rw [hu1] at hst
    simp only [StOk] at hst
    subst hst
    rw [he] at hx ⊢
    split
    ·rename_i te c0 tot ks uu dn zs hte hlk
     obtain ⟨i', zv, hi', hsz, _, _, _⟩ := (hT.ty _ te hte).info
     split
     ·rename_i hz1
      split
      ·rename_i hz2
       split
       ·rename_i hz3
        have hz1' : te.size = z := by simpa using hz1
        have hz2' : zs = z := by simpa using hz2
        have hz3' : dn = cn := by simpa using hz3
        subst hz2'; subst hz3'
        obtain ⟨obj, ho, rest, lo', hi2, rfl, hfz, hcap, hmx, hpos, hks, htc, htot⟩ := H.at_ n _ hlk
        have hAge : (c0.den ρ).length ≤ ρ.a dn := by
         have hfl : (c0.den ρ).flatten.length = (c0.den ρ).length * zs := by rw [flat_len htc, hks]
         have : (c0.den ρ).length * zs ≤ ρ.a dn * zs := by omega
         exact Nat.le_of_mul_le_mul_right this hpos
        split
        ·rename_i o nn c hS
         have hoff := resI_den hρ hp off
         obtain ⟨g0, l', u', m', q1, q2, q3, q3b, q4, q5, q6, q7⟩ := sliceE_ok (P := P) (w := w) hρ hp hS (C := capDen ρ (ρ.a dn - (off.den ρ).toNat) cap) (fun e he h0 => by subst he; rfl) (fun h00 => by
          rw [hoff] at h00
          cases cap with
          | none =>
           simp only [roomOf, capDen]
           rw [subE_den, hoff, htot]
           omega
          | some e => simp only [roomOf, capDen]; omega) (fun e he => by subst he; rfl) (fun e he hc hr0 => by cases he) ol ou om
         refine okSame H hn _ ?_ (fun m hm => hx m (by simpa [SV.names] using hm))
         rw [hoff] at g0 q5 q7
         have hn0 : (nn.den ρ).toNat = u' - l' := by omega
         simp only [Instr.sliceAt, Instr.slice, SV.den, Sem.run_bind, run_underlying hd, Result.andThen_ok, q1, run_sizeOf' hi', Sem.run_pure, hsz, hn0]
         have hcp : capDen ρ (ρ.a dn - (o.den ρ).toNat) c = m' - l' := by
          cases c with
          | none =>
           obtain ⟨e1, e2, e3⟩ := q7 rfl
           subst e1
           simp only [capDen] at e2 ⊢
           omega
          | some e => have := q6 e rfl; simp only [capDen]; omega
         have hpt : (if m' = l' then some (⟨ρ.a n, (off.den ρ).toNat * zs, none⟩ : Addr) else (some (⟨ρ.a n, (off.den ρ).toNat * zs, none⟩ : Addr)).map (fun a => a.add (l' * te.size))) = some ⟨ρ.a n, (o.den ρ).toNat * zs, none⟩ := by
          by_cases hml : m' = l'
          ·rw [if_pos hml]
           rw [if_pos hml] at q5
           rw [show o.den ρ = off.den ρ by omega]
          ·rw [if_neg hml]
           rw [if_neg hml] at q5
           simp only [Option.map_some]
           rw [addr_add, hz1', ← Nat.add_mul, show (o.den ρ).toNat = (off.den ρ).toNat + l' by omega]
         rw [hcp, hpt]
        ·rename_i o l hS
         have hoff := resI_den hρ hp off
         obtain ⟨g0, hcn, ho2, g1, g2, q1⟩ := sliceE_emp (P := P) (w := w) hρ hp hS (C := capDen ρ (ρ.a dn - (off.den ρ).toNat) cap) (fun h00 => by
          rw [hoff] at h00
          cases cap with
          | none =>
           simp only [roomOf, capDen]
           rw [subE_den, hoff, htot]
           omega
          | some e => simp only [roomOf, capDen]; omega) ol ou om
         subst hcn; subst ho2
         simp only [capDen] at q1 g2
         refine okSame H hn _ ?_ (fun m hm => hx m (by simpa [SV.names] using hm))
         simp only [Instr.sliceAt, Instr.slice, SV.den, Sem.run_bind, run_underlying hd, Result.andThen_ok, capDen, q1, run_sizeOf' hi', Sem.run_pure, hsz, hoff, Nat.sub_self]
         by_cases hml : ρ.a dn - (off.den ρ).toNat = (l.den ρ).toNat
         ·simp only [if_pos hml, Nat.add_zero]
         ·simp only [if_neg hml, Option.map_some]
          rw [addr_add, hz1', ← Nat.add_mul]
        ·trivial
        ·trivial
       ·trivial
      ·trivial
     ·trivial
    ·trivial
   ·rename_i l1 hu1 he
    rw [hu1] at hst
    simp only [StOk] at hst
    subst hst
    rw [he]
    split
    ·simp only [Ov] at om
     rw [om]
     exact winStr_ok hρ hp hrom.typed H hn hd ol ou rfl
    ·trivial
   ·rename_i bs hu1 he
    rw [hu1] at hst
    simp only [StOk] at hst
    subst hst
    rw [he]
    split
    ·split
     ·simp only [Ov] at om
      rw [om]
      exact winStr_ok hρ hp hrom.typed H hn hd ol ou (strL_byteL _).symm
     ·trivial
    ·trivial
   ·trivial
  ·trivial
 ·exact hold
theorem denL_setAt : ∀ (l : List SV) (i : Nat) (v : SV), SV.denL ρ (l.set i v) = (SV.denL ρ l).set i (v.den ρ)
 | [], i, v => by simp [SV.denL]
 | x :: l, 0, v => by simp [SV.denL]
 | x :: l, i + 1, v => by simp [SV.denL, denL_setAt l i v]
theorem mapE_get : ∀ (ks vs : List Value) (bs : List Nat), ks.length = vs.length → ks.length = bs.length → ∀ (p : Nat) (k v : Value) (b : Nat), ks[p]? = some k → vs[p]? = some v → bs[p]? = some b → (mapE ks vs bs)[p]? = some (MapEntry.mk k v b)
 | [], _, _, _, _, p, k, v, b, h, _, _ => by simp at h
 | _ :: _, [], _, h, _, p, k, v, b, _, _, _ => by simp at h
 | _ :: _, _ :: _, [], _, h, p, k, v, b, _, _, _ => by simp at h
 | x :: ks, y :: vs, z :: bs, h1, h2, p, k, v, b, hk, hv, hb => by
  cases p with
  | zero => simp at hk hv hb; subst hk; subst hv; subst hb; rfl
  | succ p =>
   simp only [List.getElem?_cons_succ] at hk hv hb
   simp only [mapE, List.getElem?_cons_succ]
   exact mapE_get ks vs bs (by simpa using h1) (by simpa using h2) p k v b hk hv hb
theorem mapE_push : ∀ (ks vs : List Value) (bs : List Nat) (k v : Value) (b : Nat), ks.length = vs.length → ks.length = bs.length → mapE (ks ++ [k]) (vs ++ [v]) (bs ++ [b]) = mapE ks vs bs ++ [{ key := k, val := v, born := b }]
 | [], [], [], k, v, b, _, _ => rfl
 | [], _ :: _, _, k, v, b, h, _ => by simp at h
 | [], [], _ :: _, k, v, b, _, h => by simp at h
 | _ :: _, [], _, k, v, b, h, _ => by simp at h
 | _ :: _, _ :: _, [], k, v, b, _, h => by simp at h
 | x :: ks, y :: vs, z :: bs, k, v, b, h1, h2 => by
  simp only [List.cons_append, mapE]
  rw [mapE_push ks vs bs k v b (by simpa using h1) (by simpa using h2)]
theorem mapE_set : ∀ (ks vs : List Value) (bs : List Nat) (p : Nat) (k v : Value), ks.length = vs.length → ks.length = bs.length → ks[p]? = some k → mapE ks (vs.set p v) bs = (mapE ks vs bs).modify p fun e => { e with key := k, val := v }
 | [], _, _, p, k, v, _, _, h => by simp at h
 | _ :: _, [], _, p, k, v, h, _, _ => by simp at h
 | _ :: _, _ :: _, [], p, k, v, _, h, _ => by simp at h
 | x :: ks, y :: vs, z :: bs, p, k, v, h1, h2, hk => by
  cases p with
  | zero => simp at hk; subst hk; simp [mapE]
  | succ p =>
   simp only [List.getElem?_cons_succ] at hk
   simp only [List.set_cons_succ, mapE, List.modify_succ_cons]
   rw [mapE_set ks vs bs p k v (by simpa using h1) (by simpa using h2) hk]
theorem findK_ok (hρ : ρ.Ok) (hp : Holds ρ pc) {k : IntKind} {e : IE} : ∀ (ks vs : List SV) (bs : List Nat) (i : Nat), ks.length = vs.length → ks.length = bs.length →
  (∀ q, findK pc k e ks i = .at q → ∃ p v a, q = i + p ∧ ks[p]? = some (.int k a) ∧ a.den ρ = e.den ρ ∧ vs[p]? = some v ∧ Instr.findNow (.int k) (.int k (e.den ρ)) (mapE (SV.denL ρ ks) (SV.denL ρ vs) bs) i = some (some (q, v.den ρ))) ∧
  (findK pc k e ks i = .none → Instr.findNow (.int k) (.int k (e.den ρ)) (mapE (SV.denL ρ ks) (SV.denL ρ vs) bs) i = some none)
 | [], vs, bs, i, h1, h2 => ⟨fun q h => by simp [findK] at h, fun _ => by simp [mapE, SV.denL, Instr.findNow]⟩
 | x :: ks, [], bs, i, h1, h2 => by simp at h1
 | x :: ks, v :: vs, [], i, h1, h2 => by simp at h2
 | x :: ks, v :: vs, b :: bs, i, h1, h2 => by
  obtain ⟨r1, r2⟩ := findK_ok hρ hp (k := k) (e := e) ks vs bs (i + 1) (by simpa using h1) (by simpa using h2)
  cases x with
  | int j a =>
   simp only [findK]
   split
   ·rename_i hk
    have hkj := (keq_iff _ _).1 hk
    subst hkj
    have hn : ∀ t : Bool, (e.den ρ == a.den ρ) = t → Instr.findNow (.int k) (.int k (e.den ρ)) (mapE (SV.denL ρ (.int k a :: ks)) (SV.denL ρ (v :: vs)) (b :: bs)) i = (if t then some (some (i, v.den ρ)) else Instr.findNow (.int k) (.int k (e.den ρ)) (mapE (SV.denL ρ ks) (SV.denL ρ vs) bs) (i + 1)) := by
     intro t ht
     cases t <;> simp [SV.denL, SV.den, mapE, Instr.findNow, Instr.sameNow, ht]
    split
    ·rename_i hd
     have hd' := dec_den hρ hp _ _ hd
     rw [mkEq_den] at hd'
     have he : e.den ρ = a.den ρ := of_decide_eq_true hd'
     refine ⟨fun q h => ?_, fun h => by cases h⟩
     cases h
     exact ⟨0, v, a, rfl, rfl, he.symm, rfl, by rw [hn true (by simp [he])]; rfl⟩
    ·rename_i hd
     have hd' := dec_den hρ hp _ _ hd
     rw [mkEq_den] at hd'
     have he : ¬ e.den ρ = a.den ρ := of_decide_eq_false hd'
     have hb : (e.den ρ == a.den ρ) = false := by simpa using he
     refine ⟨fun q h => ?_, fun h => ?_⟩
     ·obtain ⟨p, v', a', q1, q2, q3, q4, q5⟩ := r1 q h
      exact ⟨p + 1, v', a', by omega, by simpa using q2, q3, by simpa using q4, by rw [hn false hb]; exact q5⟩
     ·rw [hn false hb]; exact r2 h
    ·exact ⟨fun q h => (by cases h), fun h => by cases h⟩
   ·exact ⟨fun q h => (by cases h), fun h => by cases h⟩
  | _ => exact ⟨fun q h => (by simp [findK] at h), fun h => by simp [findK] at h⟩
theorem intKey_ok (hT : T.Ok P) {t k e : TypeId} {j : IntKind} (h : intKey T t = some (j, (k, e))) : P.underlying t = some (.map k e) ∧ P.underlying k = some (.int j) := by
 unfold intKey at h
 split at h
 ·rename_i ti hti
  obtain ⟨d, hd, hst, _⟩ := (hT.ty t ti hti).und
  split at h
  ·rename_i k' e' hu
   rw [hu] at hst
   split at h
   ·rename_i tk htk
    obtain ⟨d2, hd2, hst2, _⟩ := (hT.ty k' tk htk).und
    split at h
    ·rename_i j' hu2
     rw [hu2] at hst2
     cases h
     exact ⟨by rw [hd, show d = .map k e from hst], by rw [hd2, show d2 = .int j from hst2]⟩
    ·cases h
   ·cases h
  ·cases h
 ·cases h
theorem run_checkKey {b : Bool} {k : TypeId} {j : IntKind} {n : Int} (hk : P.underlying k = some (.int j)) (w : World) : (Instr.checkKey b 10000 k (.int j n)).run P w = .ok () w := by
 show (Instr.checkKey b (9999 + 1) k (.int j n)).run P w = .ok () w
 rw [Instr.checkKey]
 simp [run_underlying hk]
theorem run_findKey {k : TypeId} {j : IntKind} {v : Value} {es : List MapEntry} {r : Option (Nat × Value)} (hk : P.underlying k = some (.int j)) (h : Instr.findNow (.int j) v es 0 = some r) (w : World) : (Instr.findKey k v es).run P w = .ok r w := by
 simp [Instr.findKey, run_underlying hk, h]
theorem look_ok (hT : T.Ok P) (hρ : ρ.Ok) (hp : Holds ρ pc) (H : HeapR ρ b0 h w) (hn : HNames nx h) (hsl : SlotsR ρ sl a.tmps) (hs : SNames nx sl) (t : TypeId) (x ix : Operand) (ok : Bool) :
  ORok P ρ b0 h nx w (do pure (.value (← Instr.lookup t (a.eval x) (a.eval ix) ok))) (opLook T pc h nx sl t x ix ok) := by
 unfold opLook
 split
 ·rename_i j key e hkey
  obtain ⟨k1, k2⟩ := intKey_ok hT hkey
  rw [ev_den hsl x, ev_den hsl ix]
  split
  ·rename_i k i hix
   rw [hix]
   split
   ·rename_i hkk
    have hjk := (keq_iff _ _).1 hkk
    subst hjk
    split
    ·rename_i te hte
     split
     ·rename_i z hz
      obtain ⟨z1, z2⟩ := zeroS_ok (hT.ty e te hte) hz ρ w
      have hzv : NamesV nx (if ok then SV.tup [z, .bool (.lit false)] else z) := by
       intro m hm
       cases ok <;> simp [SV.names, SV.namesL, z2] at hm
      split
      ·rename_i hx
       rw [hx]
       refine okSame H hn _ ?_ hzv
       have hf : Instr.findNow (.int j) (.int j (i.den ρ)) [] 0 = some none := rfl
       have hfk := run_findKey (P := P) k2 hf w
       have hck := run_checkKey (P := P) (b := true) (n := i.den ρ) k2 w
       cases ok <;> simp [Instr.lookup, run_underlying k1, SV.den, SV.denL, BE.den, hck, hfk, z1]
      ·rename_i n hx
       rw [hx]
       split
       ·rename_i ks vs bs c hl
        obtain ⟨obj, ho, hR⟩ := H.at_ n _ hl
        obtain ⟨hobj, l1, l2⟩ := hR
        subst hobj
        obtain ⟨r1, r2⟩ := findK_ok (ρ := ρ) hρ hp (k := j) (e := i) ks vs bs 0 l1 l2
        have hnm := (hn n _ hl).2
        have hgo : (getObj (ρ.a n)).run P w = .ok (.map (mapE (SV.denL ρ ks) (SV.denL ρ vs) bs).toArray c) w := by simp [getObj, Sem.run, ho]
        have hck := fun b => run_checkKey (P := P) (b := b) (n := i.den ρ) k2 w
        split
        ·rename_i q hq
         obtain ⟨p, v, a', q1, q2, q3, q4, q5⟩ := r1 q hq
         have hq1 : q = p := by omega
         subst hq1
         rw [nth_eq, q4]
         refine okSame H hn _ ?_ ?_
         ·have hfk := run_findKey (P := P) k2 q5 w
          cases ok <;> simp [Instr.lookup, run_underlying k1, SV.den, SV.denL, BE.den, hgo, hck, hfk]
         ·intro m hm
          refine hnm m ?_
          simp only [SObj.names, List.mem_append]
          refine .inr (mem_namesL.2 ⟨v, List.mem_of_getElem? q4, ?_⟩)
          cases ok <;> simpa [SV.names, SV.namesL] using hm
        ·rename_i hq
         refine okSame H hn _ ?_ hzv
         have hfk := run_findKey (P := P) k2 (r2 hq) w
         cases ok <;> simp [Instr.lookup, run_underlying k1, SV.den, SV.denL, BE.den, hgo, hck, hfk, z1]
        ·trivial
        ·trivial
       ·trivial
      ·trivial
     ·trivial
    ·trivial
   ·trivial
  ·trivial
 ·trivial
theorem set_ok (hT : T.Ok P) (hρ : ρ.Ok) (hp : Holds ρ pc) (H : HeapR ρ b0 h w) (hn : HNames nx h) (hsl : SlotsR ρ sl a.tmps) (hs : SNames nx sl) (t : TypeId) (m k x : Operand) :
  ORok P ρ b0 h nx w (do Instr.mapUpdate t (a.eval m) (a.eval k) (a.eval x); pure .skip) (opSet T pc h nx sl t m k x) := by
 have hxn := ev_names hs x
 unfold opSet
 split
 ·rename_i j ke hkey
  obtain ⟨key, e⟩ := ke
  obtain ⟨k1, k2⟩ := intKey_ok hT hkey
  rw [ev_den hsl m, ev_den hsl k, ev_den hsl x]
  split
  ·rename_i kk i hix
   rw [hix]
   split
   ·rename_i hkk
    have hjk := (keq_iff _ _).1 hkk
    subst hjk
    split
    ·rename_i n hx
     rw [hx]
     split
     ·rename_i ks vs bs c hl
      obtain ⟨obj, ho, hR⟩ := H.at_ n _ hl
      obtain ⟨hobj, l1, l2⟩ := hR
      subst hobj
      obtain ⟨r1, r2⟩ := findK_ok (ρ := ρ) hρ hp (k := j) (e := i) ks vs bs 0 l1 l2
      have hnm := (hn n _ hl).2
      have hlen1 : (SV.denL ρ ks).length = (SV.denL ρ vs).length := by rw [denL_length, denL_length, l1]
      have hlen2 : (SV.denL ρ ks).length = bs.length := by rw [denL_length, l2]
      have hgo : (getObj (ρ.a n)).run P w = .ok (.map (mapE (SV.denL ρ ks) (SV.denL ρ vs) bs).toArray c) w := by simp [getObj, Sem.run, ho]
      have hso : ∀ o, (setObj (ρ.a n) o).run P w = .ok () (World.putO w (ρ.a n) o) := by intro o; simp [setObj, Sem.run, ho, World.putO]
      have hck := run_checkKey (P := P) (b := false) (n := i.den ρ) k2 w
      split
      ·rename_i q hq
       obtain ⟨p, v, a', q1, q2, q3, q4, q5⟩ := r1 q hq
       have hq1 : q = p := by omega
       subst hq1
       have hfk := run_findKey (P := P) k2 q5 w
       have hkd : (SV.denL ρ ks)[q]? = some (.int j (i.den ρ)) := by rw [denL_get, q2]; simp [SV.den, q3]
       have hvd : (SV.denL ρ vs)[q]? = some (v.den ρ) := by rw [denL_get, q4]; rfl
       have hbq : q < bs.length := by rw [← l2]; exact (List.getElem?_eq_some_iff.1 q2).1
       have hent := mapE_get _ _ bs hlen1 hlen2 q _ _ bs[q] hkd hvd (by simp [hbq])
       have hput : SV.denL ρ (put vs q (ev sl x)) = (SV.denL ρ vs).set q ((ev sl x).den ρ) := by rw [put_eq, denL_setAt]
       have hm := Move.upd H hn hl (.mapo ks (put vs q (ev sl x)) bs c) (.map ((mapE (SV.denL ρ ks) (SV.denL ρ vs) bs).toArray.modify q fun e => { e with key := .int j (i.den ρ), val := (ev sl x).den ρ }) c) ⟨by
        rw [hput, mapE_set _ _ bs q (.int j (i.den ρ)) _ hlen1 hlen2 hkd]
        simp, by rw [put_eq, List.length_set]; exact l1, l2⟩ (by
        intro u hu
        simp only [SObj.names, List.mem_append] at hu
        rcases hu with hu | hu
        ·exact hnm u (by simp only [SObj.names, List.mem_append]; exact .inl hu)
        ·rw [put_eq] at hu
         obtain ⟨v', hv', hu'⟩ := mem_namesL.1 hu
         rcases List.mem_or_eq_of_mem_set hv' with h3 | h3
         ·exact hnm u (by simp only [SObj.names, List.mem_append]; exact .inr (mem_namesL.2 ⟨v', h3, hu'⟩))
         ·subst h3; exact hxn u hu')
       refine ⟨ρ, _, .skip, ?_, .inr ⟨rfl, rfl⟩, hm, fun u hu => by simp [SV.names, SV.namesL] at hu⟩
       have hks : (Instr.keyThatStays (.int j (i.den ρ)) (.int j (i.den ρ))).run P w = .ok (.int j (i.den ρ)) w := by
        have : Instr.sameBits 10000 (.int j (i.den ρ)) (.int j (i.den ρ)) = true := by
         show Instr.sameBits (9999 + 1) _ _ = true
         simp [Instr.sameBits]
        simp [Instr.keyThatStays, this]
       have hent' : (mapE (SV.denL ρ ks) (SV.denL ρ vs) bs)[q]? = some { key := .int j (i.den ρ), val := v.den ρ, born := bs[q] } := hent
       simp [Instr.mapUpdate, run_underlying k1, SV.den, hgo, hck, hfk, hent', hks, hso]
      ·rename_i hq
       have hfk := run_findKey (P := P) k2 (r2 hq) w
       have hm := Move.upd H hn hl (.mapo (ks ++ [.int j i]) (vs ++ [ev sl x]) (bs ++ [c]) (c + 1)) (.map ((mapE (SV.denL ρ ks) (SV.denL ρ vs) bs).toArray.push { key := .int j (i.den ρ), val := (ev sl x).den ρ, born := c }) (c + 1)) ⟨by
        rw [denL_append, denL_append]
        simp only [SV.denL, SV.den]
        rw [mapE_push _ _ bs _ _ c hlen1 hlen2]
        simp, by simp [l1], by simp [l2]⟩ (by
        intro u hu
        simp only [SObj.names, List.mem_append] at hu
        rcases hu with hu | hu
        ·obtain ⟨v', hv', hu'⟩ := mem_namesL.1 hu
         rcases List.mem_append.1 hv' with h3 | h3
         ·exact hnm u (by simp only [SObj.names, List.mem_append]; exact .inl (mem_namesL.2 ⟨v', h3, hu'⟩))
         ·simp at h3; subst h3; simp [SV.names] at hu'
        ·obtain ⟨v', hv', hu'⟩ := mem_namesL.1 hu
         rcases List.mem_append.1 hv' with h3 | h3
         ·exact hnm u (by simp only [SObj.names, List.mem_append]; exact .inr (mem_namesL.2 ⟨v', h3, hu'⟩))
         ·simp at h3; subst h3; exact hxn u hu')
       refine ⟨ρ, _, .skip, ?_, .inr ⟨rfl, rfl⟩, hm, fun u hu => by simp [SV.names, SV.namesL] at hu⟩
       simp [Instr.mapUpdate, run_underlying k1, SV.den, hgo, hck, hfk, hso]
      ·trivial
      ·trivial
     ·trivial
    ·trivial
   ·trivial
  ·trivial
 ·trivial
theorem makeMap_ok (H : HeapR ρ b0 h w) (hn : HNames nx h) (t : TypeId) (r : Option Operand) :
  ORok P ρ b0 h nx w (do pure (.value (← Instr.makeMap t (r.map a.eval)))) (opMakeMap h nx r) := by
 unfold opMakeMap
 split
 ·refine ⟨_, _, _, ?_, .inl rfl, Move.new H hn (.mapo [] [] [] 0) (.map #[] 0) ⟨by simp [SV.denL, mapE], rfl, rfl⟩ (by simp [SObj.names, SV.namesL]), fun n hm => by simp [SV.names] at hm; omega⟩
  simp [Instr.makeMap, newObj, Sem.run, SV.den, Rho.set_a]
 ·trivial
end
end Go.Proofs.Ythenenacmiiphaa.Sx
