/- A reckoner of Go's small steps over letters: rows of a length that is a letter, what their words mean. No condition. -/
import Derived.Test.YtjgkaimgocnkmabSp1
set_option linter.unusedVariables false
set_option linter.unusedSimpArgs false
namespace Go.Proofs.Ytjgkaimgocnkmab.Sx
open Go

/-- The same letters, but for where blocks lie. -/
structure Same (ρ ρ' : Rho) : Prop where
  i : ρ'.i = ρ.i
  b : ρ'.b = ρ.b
  l : ρ'.l = ρ.l
  v : ρ'.v = ρ.v
  z : ρ'.z = ρ.z
theorem Same.refl (ρ : Rho) : Same ρ ρ := ⟨rfl, rfl, rfl, rfl, rfl⟩
theorem Same.trans {a b c : Rho} (h : Same a b) (g : Same b c) : Same a c := ⟨g.i.trans h.i, g.b.trans h.b, g.l.trans h.l, g.v.trans h.v, g.z.trans h.z⟩
mutual
theorem IE.den_same {ρ ρ' : Rho} (h : Same ρ ρ') : ∀ (e : IE), e.den ρ' = e.den ρ
  | .lit n => by simp only [IE.den]
  | .var k n => by simp only [IE.den, h.i]
  | .add x y => by simp only [IE.den, IE.den_same h x, IE.den_same h y]
  | .sub x y => by simp only [IE.den, IE.den_same h x, IE.den_same h y]
  | .mul x y => by simp only [IE.den, IE.den_same h x, IE.den_same h y]
  | .wrap k x => by simp only [IE.den, IE.den_same h x]
  | .bin op k x y => by simp only [IE.den, IE.den_same h x, IE.den_same h y]
  | .cel k l i j => by simp only [IE.den, LE.den_same h l, IE.den_same h i]
  | .len l => by simp only [IE.den, LE.den_same h l]
  | .rcap r => by simp only [IE.den, h.z]
  | .fn k n a => by simp only [IE.den, AL.den_same h a, h.z]
  | .ite c x y => by simp only [IE.den, BE.den_same h c, IE.den_same h x, IE.den_same h y]
theorem BE.den_same {ρ ρ' : Rho} (h : Same ρ ρ') : ∀ (e : BE), e.den ρ' = e.den ρ
  | .lit b => by simp only [BE.den]
  | .var n => by simp only [BE.den, h.b]
  | .le x y => by simp only [BE.den, IE.den_same h x, IE.den_same h y]
  | .eq x y => by simp only [BE.den, IE.den_same h x, IE.den_same h y]
  | .not x => by simp only [BE.den, BE.den_same h x]
  | .and x y => by simp only [BE.den, BE.den_same h x, BE.den_same h y]
  | .iff x y => by simp only [BE.den, BE.den_same h x, BE.den_same h y]
  | .cel l i j => by simp only [BE.den, LE.den_same h l, IE.den_same h i]
  | .leq a b => by simp only [BE.den, LE.den_same h a, LE.den_same h b]
  | .rnil r => by simp only [BE.den, h.z]
  | .fn n a => by simp only [BE.den, AL.den_same h a, h.z]
theorem LE.den_same {ρ ρ' : Rho} (h : Same ρ ρ') : ∀ (e : LE), e.den ρ' = e.den ρ
  | .nil => by simp only [LE.den]
  | .var n => by simp only [LE.den, h.l]
  | .rom r => by simp only [LE.den, h.z]
  | .cat a b => by simp only [LE.den, LE.den_same h a, LE.den_same h b]
  | .one c => by simp only [LE.den, AL.den_same h c]
  | .set a i c => by simp only [LE.den, LE.den_same h a, IE.den_same h i, AL.den_same h c]
  | .take a i => by simp only [LE.den, LE.den_same h a, IE.den_same h i]
  | .drop a i => by simp only [LE.den, LE.den_same h a, IE.den_same h i]
  | .rep c n => by simp only [LE.den, AL.den_same h c, IE.den_same h n]
  | .str a i j => by simp only [LE.den, LE.den_same h a, IE.den_same h i]
  | .fn n a => by simp only [LE.den, AL.den_same h a, h.z]
theorem AL.den_same {ρ ρ' : Rho} (h : Same ρ ρ') : ∀ (e : AL), e.den ρ' = e.den ρ
  | .nil => by simp only [AL.den]
  | .int k e r => by simp only [AL.den, IE.den_same h e, AL.den_same h r]
  | .bool b r => by simp only [AL.den, BE.den_same h b, AL.den_same h r]
  | .lst l r => by simp only [AL.den, LE.den_same h l, AL.den_same h r]
  | .cel l i j r => by simp only [AL.den, LE.den_same h l, IE.den_same h i, AL.den_same h r]
end
theorem Same.holds {ρ ρ' : Rho} (h : Same ρ ρ') {pc : List BE} : Holds ρ' pc ↔ Holds ρ pc := by
  unfold Holds
  simp [BE.den_same h]
theorem Same.ok {ρ ρ' : Rho} (h : Same ρ ρ') (hρ : ρ.Ok) : ρ'.Ok := ⟨by rw [h.i]; exact hρ.lo, by rw [h.i]; exact hρ.hi, by rw [h.l]; exact hρ.ll, by rw [h.l]; exact hρ.lodd, by rw [h.z]; exact hρ.rl, by rw [h.z]; exact hρ.fodd⟩

section
variable {ρ : Rho} {pc : List BE}
theorem ckeq_iff (a b : CK) : ckeq a b = true ↔ a = b := by
  cases a <;> cases b <;> simp [ckeq, keq_iff]
theorem ksEq_eq : ∀ (a b : List CK), ksEq a b = true → a = b
  | [], b, h => by cases b <;> simp [ksEq] at h; rfl
  | x :: l, b, h => by
    cases b with
    | nil => simp [ksEq] at h
    | cons y m =>
      simp only [ksEq] at h
      split at h
      · rename_i h1
        rw [(ckeq_iff _ _).1 h1, ksEq_eq l m h]
      · cases h
theorem isByteK_eq {ks : List CK} (h : isByteK ks = true) : ks = byteK := by
  unfold isByteK at h
  split at h
  · rfl
  · cases h
theorem ieqb_t {a b : Int} (h : ieqb a b = true) : a = b := (ieqb_iff a b).1 h
theorem addE_den (x y : IE) : (addE x y).den ρ = x.den ρ + y.den ρ := by
  unfold addE
  split
  · rw [fint_eq]; rfl
  · simp [IE.den]
  · simp [IE.den]
  · rw [fint_eq]
    split
    · rename_i h
      have := ieqb_t h
      simp only [IE.den]; omega
    · simp only [IE.den]; omega
  · rfl
theorem subE_den (x y : IE) : (subE x y).den ρ = x.den ρ - y.den ρ := by
  unfold subE
  split
  · rw [fint_eq]; rfl
  · simp [IE.den]
  · rw [fint_eq]
    split
    · rename_i h
      have := ieqb_t h
      simp only [IE.den]; omega
    · simp only [IE.den]; omega
  · split
    · rename_i h
      rw [IE.beq_eq _ _ h]; simp only [IE.den]; omega
    · split
      · rename_i h
        rw [IE.beq_eq _ _ h]; simp only [IE.den]; omega
      · split
        · rename_i h
          rw [IE.beq_eq _ _ h]; simp only [IE.den]; omega
        · rfl
  · split
    · rename_i h
      rw [IE.beq_eq _ _ h]; simp only [IE.den]; omega
    · rfl
theorem resI_den (hρ : ρ.Ok) (hp : Holds ρ pc) : ∀ e : IE, (resI pc e).den ρ = e.den ρ := by
  intro e
  induction e using IE.ind with
  | ite c x y hx hy =>
    simp only [resI]
    split
    · rename_i h
      rw [hx, IE.den, dec_den hρ hp _ _ h]; rfl
    · rename_i h
      rw [hy, IE.den, dec_den hρ hp _ _ h]; rfl
    · rfl
  | add x y hx hy => simp only [resI, addE_den, hx, hy, IE.den]
  | _ => rfl
theorem lenV_eq (l : LV) : lenV l = (l.length : Int) := rfl
theorem dec_le {x y : IE} (hρ : ρ.Ok) (hp : Holds ρ pc) (h : dec pc (mkLe x y) = some true) : x.den ρ ≤ y.den ρ := by
  have := dec_den hρ hp _ _ h
  rw [mkLe_den] at this
  exact of_decide_eq_true this
theorem dec_lt {x y : IE} (hρ : ρ.Ok) (hp : Holds ρ pc) (h : dec pc (mkLe x y) = some false) : y.den ρ < x.den ρ := by
  have := dec_den hρ hp _ _ h
  rw [mkLe_den] at this
  have := of_decide_eq_false this
  omega
theorem dec_nle {x y : IE} (hρ : ρ.Ok) (hp : Holds ρ pc) (h : dec pc (mkNot (mkLe x y)) = some true) : y.den ρ < x.den ρ := by
  have := dec_den hρ hp _ _ h
  rw [mkNot_den, mkLe_den] at this
  simp at this; exact this
theorem dec_eq {x y : IE} (hρ : ρ.Ok) (hp : Holds ρ pc) (h : dec pc (mkEq x y) = some true) : x.den ρ = y.den ρ := by
  have := dec_den hρ hp _ _ h
  rw [mkEq_den] at this
  exact of_decide_eq_true this
theorem dec_ne {x y : IE} (hρ : ρ.Ok) (hp : Holds ρ pc) (h : dec pc (mkEq x y) = some false) : x.den ρ ≠ y.den ρ := by
  have := dec_den hρ hp _ _ h
  rw [mkEq_den] at this
  exact of_decide_eq_false this
theorem LE.ind {M : LE → Prop} (nil : M .nil) (var : ∀ n, M (.var n)) (rom : ∀ r, M (.rom r)) (cat : ∀ a b, M a → M b → M (.cat a b)) (one : ∀ c, M (.one c)) (set : ∀ a i c, M a → M (.set a i c)) (take : ∀ a i, M a → M (.take a i)) (drop : ∀ a i, M a → M (.drop a i))
    (rep : ∀ c n, M (.rep c n)) (str : ∀ l i j, M (.str l i j)) (fn : ∀ n a, M (.fn n a)) : ∀ e, M e
  | .nil => nil
  | .var n => var n
  | .rom r => rom r
  | .cat a b => cat a b (LE.ind nil var rom cat one set take drop rep str fn a) (LE.ind nil var rom cat one set take drop rep str fn b)
  | .one c => one c
  | .set a i c => set a i c (LE.ind nil var rom cat one set take drop rep str fn a)
  | .take a i => take a i (LE.ind nil var rom cat one set take drop rep str fn a)
  | .drop a i => drop a i (LE.ind nil var rom cat one set take drop rep str fn a)
  | .rep c n => rep c n
  | .str l i j => str l i j
  | .fn n a => fn n a
theorem lenE_den (hρ : ρ.Ok) (hp : Holds ρ pc) : ∀ l : LE, (lenE pc l).den ρ = ((l.den ρ).length : Int) := by
  intro l
  induction l using LE.ind with
  | nil => simp [lenE, IE.den, LE.den]
  | one c => simp [lenE, IE.den, LE.den]
  | cat a b ha hb => simp [lenE, addE_den, ha, hb, LE.den]
  | set a i c ha => simp [lenE, ha, LE.den]
  | rep c n =>
    simp only [lenE]
    split
    · rename_i h
      have := dec_le hρ hp h
      simp only [IE.den] at this
      simp [LE.den]; omega
    · simp [IE.den, lenV]
  | take a k ha =>
    simp only [lenE]
    split
    · rename_i h
      split
      · rename_i h2
        have := dec_le hρ hp h
        have := dec_le hρ hp h2
        rw [ha] at this
        simp only [IE.den] at *
        simp [LE.den]; omega
      · simp [IE.den, lenV]
    · simp [IE.den, lenV]
  | drop a k ha =>
    simp only [lenE]
    split
    · rename_i h
      split
      · rename_i h2
        have := dec_le hρ hp h
        have := dec_le hρ hp h2
        rw [ha] at this
        simp only [IE.den] at *
        rw [subE_den, ha]
        simp [LE.den]; omega
      · simp [IE.den, lenV]
    · simp [IE.den, lenV]
  | _ => simp [lenE, IE.den, lenV]
theorem Typed.nil (ks : List CK) : Typed ks [] := fun e h => by cases h
theorem Typed.app {ks : List CK} {a b : LV} (ha : Typed ks a) (hb : Typed ks b) : Typed ks (a ++ b) := fun e h => by
  rcases List.mem_append.1 h with h | h
  · exact ha e h
  · exact hb e h
theorem Typed.sub {ks : List CK} {a b : LV} (ha : Typed ks a) (h : ∀ e ∈ b, e ∈ a) : Typed ks b := fun e he => ha e (h e he)
theorem Typed.take {ks : List CK} {a : LV} (ha : Typed ks a) (n : Nat) : Typed ks (a.take n) := ha.sub fun e h => List.mem_of_mem_take h
theorem Typed.drop {ks : List CK} {a : LV} (ha : Typed ks a) (n : Nat) : Typed ks (a.drop n) := ha.sub fun e h => List.mem_of_mem_drop h
theorem Typed.set {ks : List CK} {a : LV} (ha : Typed ks a) (n : Nat) {e : List Value} (he : conf ks e = true) : Typed ks (a.set n e) := fun x hx => by
  rcases List.mem_or_eq_of_mem_set hx with h | rfl
  · exact ha x h
  · exact he
theorem Typed.one {ks : List CK} {e : List Value} (he : conf ks e = true) : Typed ks [e] := fun x hx => by
  rw [List.mem_singleton] at hx; subst hx; exact he
theorem Typed.rep {ks : List CK} {e : List Value} (n : Nat) (he : conf ks e = true) : Typed ks (List.replicate n e) := fun x hx => by
  rw [(List.mem_replicate.1 hx).2]; exact he
theorem conf_length : ∀ {ks : List CK} {e : List Value}, conf ks e = true → e.length = ks.length
  | [], [], _ => rfl
  | [], v :: vs, h => by simp [conf] at h
  | k :: ks, [], h => by simp [conf] at h
  | k :: ks, v :: vs, h => by
    simp only [conf] at h
    split at h
    · simp [conf_length h]
    · cases h
theorem conf_cons {k : CK} {ks : List CK} {e : List Value} (h : conf (k :: ks) e = true) : ∃ v vs, e = v :: vs ∧ conf1 k v = true ∧ conf ks vs = true := by
  cases e with
  | nil => simp [conf] at h
  | cons v vs =>
    simp only [conf] at h
    split at h
    · exact ⟨v, vs, rfl, ‹_›, h⟩
    · cases h
theorem clampK_in {k : IntKind} {n : Int} (h1 : kmin k ≤ n) (h2 : n ≤ kmax k) : clampK k n = n := by
  unfold clampK; rw [if_pos ⟨h1, h2⟩]
theorem conf1_int {k : IntKind} {v : Value} (h : conf1 (.int k) v = true) : v = .int k (clampK k (intV v)) ∧ kmin k ≤ intV v ∧ intV v ≤ kmax k := by
  cases v <;> simp [conf1, keq_iff, ileb_iff] at h
  rename_i n
  obtain ⟨rfl, h1, h2⟩ := h
  refine ⟨?_, h1, h2⟩
  show Value.int k n = .int k (clampK k n)
  rw [clampK_in h1 h2]
theorem conf1_bool {v : Value} (h : conf1 .bool v = true) : v = .bool (boolV v) := by
  cases v <;> simp [conf1] at h
  rfl
theorem byteL_strV (s : ByteArray) : byteL (strV (.string s)) = s := by
  unfold byteL strV bytesOf
  simp only [List.map_map, Function.comp_def, List.headD_cons, intV]
  apply ByteArray.ext
  apply Array.ext'
  simp
theorem conf1_str {v : Value} (h : conf1 .str v = true) : v = .string (byteL (strV v)) := by
  cases v <;> simp [conf1] at h
  rw [byteL_strV]
theorem atomsAt_den (l : LE) (i : IE) : ∀ (ks : List CK) (j : Nat) (e : List Value), conf ks (e.drop j) = true → (l.den ρ).getD (i.den ρ).toNat [] = e → SV.denL ρ (atomsAt l i ks j) = e.drop j
  | [], j, e, hc, he => by
    simp only [atomsAt, SV.denL]
    cases hd : e.drop j with
    | nil => rfl
    | cons v vs => rw [hd] at hc; simp [conf] at hc
  | k :: ks, j, e, hc, he => by
    obtain ⟨v, vs, hd, h1, h2⟩ := conf_cons hc
    have hj : e.getD j (.bool false) = v := by
      have : e[j]? = some v := by
        have := congrArg (·[0]?) hd
        simpa using this
      simp [List.getD, this]
    have hvs : vs = e.drop (j + 1) := by
      have := congrArg (List.drop 1) hd
      simpa [Nat.add_comm] using this.symm
    have ih := atomsAt_den l i ks (j + 1) e (by rw [← hvs]; exact h2) he
    have hcel : celV (l.den ρ) (i.den ρ) j = v := by unfold celV; rw [he, hj]
    rw [hd]
    cases k with
    | int k =>
      simp only [atomsAt, SV.denL, SV.den, IE.den, hcel, ih, hvs]
      rw [← (conf1_int h1).1]
    | bool =>
      simp only [atomsAt, SV.denL, SV.den, BE.den, hcel, ih, hvs]
      rw [← conf1_bool h1]
    | str =>
      simp only [atomsAt, SV.denL, SV.den, LE.den, hcel, ih, hvs]
      rw [← conf1_str h1]
    | any => simp only [atomsAt, SV.denL, SV.den, hcel, ih, hvs]
theorem atomsAt_length (l : LE) (i : IE) : ∀ (ks : List CK) (j : Nat), (atomsAt l i ks j).length = ks.length
  | [], j => rfl
  | k :: ks, j => by cases k <;> simp [atomsAt, atomsAt_length l i ks (j + 1)]
theorem atomsAt_names (l : LE) (i : IE) : ∀ (ks : List CK) (j : Nat), SV.namesL (atomsAt l i ks j) = []
  | [], j => rfl
  | k :: ks, j => by cases k <;> simp [atomsAt, SV.namesL, SV.names, atomsAt_names l i ks (j + 1)]
theorem alCells_den : ∀ c : AL, SV.denL ρ (alCells c) = (c.den ρ).map AV.cell
  | .nil => by simp [alCells, SV.denL, AL.den]
  | .int k e r => by simp [alCells, SV.denL, SV.den, AL.den, AV.cell, alCells_den r]
  | .bool b r => by simp [alCells, SV.denL, SV.den, AL.den, AV.cell, alCells_den r]
  | .lst l r => by simp [alCells, SV.denL, SV.den, AL.den, AV.cell, alCells_den r]
  | .cel l i j r => by simp [alCells, SV.denL, SV.den, AL.den, AV.cell, alCells_den r]
theorem alCells_names : ∀ c : AL, SV.namesL (alCells c) = []
  | .nil => rfl
  | .int k e r => by simp [alCells, SV.namesL, SV.names, alCells_names r]
  | .bool b r => by simp [alCells, SV.namesL, SV.names, alCells_names r]
  | .lst l r => by simp [alCells, SV.namesL, SV.names, alCells_names r]
  | .cel l i j r => by simp [alCells, SV.namesL, SV.names, alCells_names r]
theorem elemAt_names {ks : List CK} : ∀ (l : LE) (i : IE) (cs : List SV), elemAt pc ks l i = .el cs → SV.namesL cs = [] := by
  intro l
  induction l using LE.ind with
  | cat a b ha hb =>
    intro i cs h
    simp only [elemAt] at h
    split at h
    · exact hb _ _ h
    · exact ha _ _ h
    · cases h
  | one c => intro i cs h; simp only [elemAt] at h; cases h; exact alCells_names c
  | rep c n => intro i cs h; simp only [elemAt] at h; cases h; exact alCells_names c
  | set a j c ha =>
    intro i cs h
    simp only [elemAt] at h
    split at h
    · split at h
      · cases h; exact alCells_names c
      · cases h
    · split at h
      · split at h
        · split at h
          · cases h; exact alCells_names c
          · cases h
        · exact ha _ _ h
        · cases h
      · cases h
  | take a k ha => intro i cs h; simp only [elemAt] at h; exact ha _ _ h
  | drop a k ha =>
    intro i cs h
    simp only [elemAt] at h
    split at h
    · exact ha _ _ h
    · cases h
  | _ => intro i cs h; simp only [elemAt] at h; cases h; exact atomsAt_names _ _ _ _
theorem elemAt_den (hρ : ρ.Ok) (hp : Holds ρ pc) {ks : List CK} : ∀ (l : LE) (i : IE) (cs : List SV) (e : List Value), elemAt pc ks l i = .el cs → 0 ≤ i.den ρ → (l.den ρ)[(i.den ρ).toNat]? = some e → conf ks e = true → SV.denL ρ cs = e := by
  have base : ∀ (l : LE) (i : IE) (cs : List SV) (e : List Value), ER.el (atomsAt l i ks 0) = .el cs → (l.den ρ)[(i.den ρ).toNat]? = some e → conf ks e = true → SV.denL ρ cs = e := by
    intro l i cs e h he hc
    cases h
    have := atomsAt_den (ρ := ρ) l i ks 0 e (by simpa using hc) (by simp [List.getD, he])
    simpa using this
  intro l
  induction l using LE.ind with
  | cat a b ha hb =>
    intro i cs e h h0 he hc
    simp only [elemAt] at h
    simp only [LE.den] at he
    split at h
    · rename_i hd
      have hle := dec_le hρ hp hd
      rw [lenE_den hρ hp] at hle
      have hs : (subE i (lenE pc a)).den ρ = i.den ρ - ((a.den ρ).length : Int) := by rw [subE_den, lenE_den hρ hp]
      refine hb _ _ e h (by rw [hs]; omega) ?_ hc
      rw [hs, List.getElem?_append_right (by omega)] at *
      rw [show (i.den ρ - ((a.den ρ).length : Int)).toNat = (i.den ρ).toNat - (a.den ρ).length by omega]
      exact he
    · rename_i hd
      have hlt := dec_lt hρ hp hd
      rw [lenE_den hρ hp] at hlt
      refine ha _ _ e h h0 ?_ hc
      rw [List.getElem?_append_left (by omega)] at he
      exact he
    · cases h
  | one c =>
    intro i cs e h h0 he hc
    simp only [elemAt] at h
    cases h
    simp only [LE.den] at he
    have h00 : (i.den ρ).toNat = 0 := by
      have := (List.getElem?_eq_some_iff.1 he).1
      simp at this; omega
    rw [h00] at he
    simp at he
    rw [alCells_den, he]
  | rep c n =>
    intro i cs e h h0 he hc
    simp only [elemAt] at h
    cases h
    simp only [LE.den, List.getElem?_replicate] at he
    split at he
    · simp at he; rw [alCells_den, he]
    · cases he
  | set a j c ha =>
    intro i cs e h h0 he hc
    have hin : ∀ (hlt : (i.den ρ).toNat < (a.den ρ).length) (hij : i.den ρ = j.den ρ), SV.denL ρ (alCells c) = e := by
      intro hlt hij
      simp only [LE.den] at he
      rw [← hij, List.getElem?_set_self hlt] at he
      cases he
      exact alCells_den c
    simp only [elemAt] at h
    split at h
    · rename_i hb
      have hij := IE.beq_eq _ _ hb
      split at h
      · rename_i hd
        have hlt := dec_lt hρ hp hd
        rw [lenE_den hρ hp] at hlt
        cases h
        exact hin (by omega) (by rw [hij])
      · cases h
    · split at h
      · rename_i hj0
        have hj := dec_le hρ hp hj0
        simp only [IE.den] at hj
        split at h
        · rename_i hq
          have hij := dec_eq hρ hp hq
          split at h
          · rename_i hd
            have hlt := dec_lt hρ hp hd
            rw [lenE_den hρ hp] at hlt
            cases h
            exact hin (by omega) hij
          · cases h
        · rename_i hq
          have hij := dec_ne hρ hp hq
          refine ha _ _ e h h0 ?_ hc
          simp only [LE.den] at he
          rw [List.getElem?_set_ne (by omega)] at he
          exact he
        · cases h
      · cases h
  | take a k ha =>
    intro i cs e h h0 he hc
    simp only [elemAt] at h
    refine ha _ _ e h h0 ?_ hc
    simp only [LE.den, List.getElem?_take] at he
    split at he
    · exact he
    · cases he
  | drop a k ha =>
    intro i cs e h h0 he hc
    simp only [elemAt] at h
    split at h
    · rename_i hd
      have hk := dec_le hρ hp hd
      simp only [IE.den] at hk
      refine ha _ _ e h (by rw [addE_den]; omega) ?_ hc
      rw [addE_den]
      simp only [LE.den, List.getElem?_drop] at he
      rw [show (i.den ρ + k.den ρ).toNat = (k.den ρ).toNat + (i.den ρ).toNat by omega]
      exact he
    · cases h
  | _ => intro i cs e h h0 he hc; simp only [elemAt] at h; exact base _ _ _ _ h he hc
theorem elemAt_length {ks : List CK} {cs : List SV} {e : List Value} (h : SV.denL ρ cs = e) (hc : conf ks e = true) : cs.length = ks.length := by
  rw [← conf_length hc, ← h]
  clear h
  induction cs with
  | nil => rfl
  | cons c cs ih => simp [SV.denL, ih]
/- kinds -/
theorem inK_in (hρ : ρ.Ok) (hp : Holds ρ pc) {k : IntKind} {e : IE} (h : inK pc k e = true) : kmin k ≤ e.den ρ ∧ e.den ρ ≤ kmax k := by
  unfold inK at h
  split at h
  · rename_i h1
    have hr := rng_in hρ hp e
    obtain ⟨lo, hi⟩ := hr
    generalize rng pc e = r at *
    obtain ⟨a, b⟩ := r
    cases a <;> cases b <;> simp [oin] at h1
    rename_i a b
    rw [ileb_iff, ileb_iff] at h1
    have := lo a rfl
    have := hi b rfl
    exact ⟨by omega, by omega⟩
  · split at h
    · rename_i h1
      split at h
      · rename_i h2
        exact ⟨dec_le hρ hp h1, dec_le hρ hp h2⟩
      · cases h
    · cases h
theorem conf1_of_int {k : IntKind} {n : Int} (h : kmin k ≤ n ∧ n ≤ kmax k) : conf1 (.int k) (.int k n) = true := by
  have := (keq_iff k k).2 rfl
  simp [conf1, this, (ileb_iff _ _).2 h.1, (ileb_iff _ _).2 h.2]
theorem conf_byte {n : Int} (h : kmin .u8 ≤ n ∧ n ≤ kmax .u8) : conf byteK [.int .u8 n] = true := by
  simp [conf, byteK, conf1_of_int h]
theorem strV_typed (v : Value) : Typed byteK (strV v) := by
  intro e he
  cases v <;> simp [strV] at he
  obtain ⟨b, _, rfl⟩ := he
  refine conf_byte ⟨by simp [kmin], ?_⟩
  have := b.toNat_lt
  simp only [kmax]; omega
theorem typedB_ok (hρ : ρ.Ok) (hp : Holds ρ pc) {roms : List (Nat × (Nat × List CK))} (hr : ∀ r esz ks, lk roms r = some (esz, ks) → Typed ks (ρ.z.rl r)) : ∀ l : LE, typedB roms pc l = true → Typed byteK (l.den ρ) := by
  intro l
  induction l using LE.ind with
  | nil => intro h; simp only [LE.den]; exact .nil _
  | var n => intro h; simp only [LE.den]; exact hρ.lodd n h
  | rom r =>
    intro h
    simp only [LE.den]
    simp only [typedB] at h
    split at h
    · rename_i esz ks hl
      rw [← isByteK_eq h]
      exact hr r esz ks hl
    · cases h
  | cat a b ha hb =>
    intro h
    simp only [typedB] at h
    split at h
    · rename_i h1
      simp only [LE.den]; exact (ha h1).app (hb h)
    · cases h
  | one c =>
    intro h
    unfold typedB at h
    split at h
    all_goals first
      | (rename_i hq; cases hq; done)
      | (rename_i e hq; cases hq; simp only [LE.den, AL.den, List.map_cons, List.map_nil, AV.cell]; exact .one (conf_byte (inK_in hρ hp h)))
      | (cases h; done)
      | skip
    all_goals (rename_i hq; cases hq)
  | set a i c ha =>
    intro h
    unfold typedB at h
    split at h
    all_goals first
      | (cases h; done)
      | (rename_i hq; cases hq; split at h; rename_i h1; simp only [LE.den, AL.den, List.map_cons, List.map_nil, AV.cell]; exact (ha h).set _ (conf_byte (inK_in hρ hp h1)); cases h)
      | (rename_i hq; cases hq)
  | take a k ha => intro h; simp only [LE.den]; exact (ha h).take _
  | drop a k ha => intro h; simp only [LE.den]; exact (ha h).drop _
  | rep c n =>
    intro h
    unfold typedB at h
    split at h
    all_goals first
      | (cases h; done)
      | (rename_i hq; cases hq; simp only [LE.den, AL.den, List.map_cons, List.map_nil, AV.cell]; exact .rep _ (conf_byte (inK_in hρ hp h)))
      | (rename_i hq; cases hq)
  | str l i j => intro h; simp only [LE.den]; exact strV_typed _
  | fn n a => intro h; simp only [LE.den]; exact hρ.fodd n _ h
theorem strL_den : ∀ l : List IE, (strL l).den ρ = (l.map (IE.den ρ)).map fun n => [.int .u8 n]
  | [] => by simp [strL, LE.den]
  | [e] => by simp [strL, LE.den, AL.den, AV.cell]
  | e :: f :: l => by
    have := strL_den (f :: l)
    simp only [strL, LE.den, AL.den, List.map_cons, List.map_nil, AV.cell] at this ⊢
    rw [this]; rfl
theorem byteL_ints (l : List Int) : byteL (l.map fun n => [.int .u8 n]) = bytesOf l := by
  unfold byteL
  rw [List.map_map]
  congr 1
  simp [Function.comp_def, intV]
theorem strL_byteL (l : List IE) : byteL ((strL l).den ρ) = bytesOf (l.map (IE.den ρ)) := by rw [strL_den, byteL_ints]
theorem allK_ok (hρ : ρ.Ok) (hp : Holds ρ pc) : ∀ l : List IE, allK pc l = true → Typed byteK ((strL l).den ρ)
  | [], h => by simp only [strL, LE.den]; exact .nil _
  | [e], h => by
    simp only [allK] at h
    split at h
    · rename_i h1
      simp only [strL, LE.den, AL.den, List.map_cons, List.map_nil, AV.cell]
      exact .one (conf_byte (inK_in hρ hp h1))
    · cases h
  | e :: f :: l, h => by
    have h' : inK pc .u8 e = true ∧ allK pc (f :: l) = true := by
      rw [allK] at h
      split at h
      · exact ⟨‹_›, h⟩
      · cases h
    have := allK_ok hρ hp (f :: l) h'.2
    have e1 : (strL (e :: f :: l)).den ρ = [[.int .u8 (e.den ρ)]] ++ (strL (f :: l)).den ρ := by
      simp only [strL, LE.den, AL.den, List.map_cons, List.map_nil, AV.cell]
    rw [e1]
    exact (Typed.one (conf_byte (inK_in hρ hp h'.1))).app this
theorem toAL_ok (hρ : ρ.Ok) (hp : Holds ρ pc) {roms : List (Nat × (Nat × List CK))} (hr : ∀ r esz ks, lk roms r = some (esz, ks) → Typed ks (ρ.z.rl r)) : ∀ (ks : List CK) (vs : List SV) (a : AL), toAL roms pc ks vs = some a →
    (a.den ρ).map AV.cell = SV.denL ρ vs ∧ conf ks (SV.denL ρ vs) = true := by
  intro ks
  induction ks with
  | nil =>
    intro vs a h
    cases vs with
    | nil => simp only [toAL, Option.some.injEq] at h; subst h; exact ⟨by simp [AL.den, SV.denL], rfl⟩
    | cons v vs => simp [toAL] at h
  | cons k ks ih =>
    intro vs a h
    unfold toAL at h
    split at h
    · rename_i hq; cases hq
    · rename_i k' ks' j e vs' hq
      cases hq
      split at h
      · rename_i hk
        have hk' := (keq_iff _ _).1 hk
        subst hk'
        split at h
        · rename_i h1
          split at h
          · rename_i r hr1
            cases h
            obtain ⟨q1, q2⟩ := ih _ _ hr1
            refine ⟨by simp [AL.den, SV.denL, SV.den, AV.cell, q1], ?_⟩
            simp [SV.denL, SV.den, conf, conf1_of_int (inK_in hρ hp h1), q2]
          · cases h
        · cases h
      · cases h
    · rename_i ks' b vs' hq
      cases hq
      split at h
      · rename_i r hr1
        cases h
        obtain ⟨q1, q2⟩ := ih _ _ hr1
        exact ⟨by simp [AL.den, SV.denL, SV.den, AV.cell, q1], by simp [SV.denL, SV.den, conf, conf1, q2]⟩
      · cases h
    · rename_i ks' l vs' hq
      cases hq
      split at h
      · split at h
        · rename_i r hr1
          cases h
          obtain ⟨q1, q2⟩ := ih _ _ hr1
          exact ⟨by simp [AL.den, SV.denL, SV.den, AV.cell, q1], by simp [SV.denL, SV.den, conf, conf1, q2]⟩
        · cases h
      · cases h
    · rename_i ks' bs vs' hq
      cases hq
      split at h
      · split at h
        · rename_i r hr1
          cases h
          obtain ⟨q1, q2⟩ := ih _ _ hr1
          exact ⟨by simp [AL.den, SV.denL, SV.den, AV.cell, q1, strL_byteL], by simp [SV.denL, SV.den, conf, conf1, q2]⟩
        · cases h
      · cases h
    · cases h
theorem setE_den (l : LE) (i : IE) (c : AL) : (setE l i c).den ρ = (l.den ρ).set (i.den ρ).toNat ((c.den ρ).map AV.cell) := by
  unfold setE
  split
  · split
    · rename_i h
      rw [IE.beq_eq _ _ h]
      simp only [LE.den, List.set_set]
    · rfl
  · rfl
theorem dropE_den (c : LE) (e : IE) : (dropE c e).den ρ = (c.den ρ).drop (e.den ρ).toNat := by
  unfold dropE
  split
  · simp [IE.den]
  · rfl
theorem lenS_den : ∀ (l : LE), (lenS l).den ρ = ((l.den ρ).length : Int)
  | .nil => by simp [lenS, IE.den, LE.den]
  | .one _ => by simp [lenS, IE.den, LE.den]
  | .cat a b => by simp [lenS, addE_den, LE.den, lenS_den a, lenS_den b]
  | .set a _ _ => by simp [lenS, LE.den, lenS_den a]
  | .var _ => by simp [lenS, IE.den, lenV]
  | .rom _ => by simp [lenS, IE.den, lenV]
  | .take _ _ => by simp [lenS, IE.den, lenV]
  | .drop _ _ => by simp [lenS, IE.den, lenV]
  | .rep _ _ => by simp [lenS, IE.den, lenV]
  | .str _ _ _ => by simp [lenS, IE.den, lenV]
  | .fn _ _ => by simp [lenS, IE.den, lenV]
theorem takeE_den (c : LE) (n : IE) : (takeE c n).den ρ = (c.den ρ).take (n.den ρ).toNat := by
  unfold takeE
  split
  · split
    · rename_i a b h
      have h1 := congrArg (IE.den ρ) (IE.beq_eq _ _ h)
      rw [lenS_den] at h1
      simp only [LE.den]
      rw [List.take_append_of_le_length (by omega), List.take_of_length_le (by omega)]
    · rfl
  · rfl
theorem winL_den {c : LE} {tot off len : IE} (ht : tot.den ρ = ((c.den ρ).length : Int)) : (winL c tot off len).den ρ = ((c.den ρ).drop (off.den ρ).toNat).take (len.den ρ).toNat := by
  unfold winL
  split
  · rename_i h
    have := congrArg (IE.den ρ) (IE.beq_eq _ _ h)
    rw [subE_den, ht] at this
    rw [dropE_den, List.take_of_length_le]
    simp only [List.length_drop]; omega
  · rw [takeE_den, dropE_den]
theorem catE_den (a b : LE) : (catE a b).den ρ = a.den ρ ++ b.den ρ := by
  unfold catE
  split <;> simp [LE.den]
theorem mkLeq_den (a b : LE) : (mkLeq a b).den ρ = eqV (a.den ρ) (b.den ρ) := by
  unfold mkLeq
  split
  · rename_i h; rw [LE.beq_eq _ _ h]; simp [BE.den, eqV]
  · rfl
theorem rowsL_ok (hρ : ρ.Ok) (hp : Holds ρ pc) {roms : List (Nat × (Nat × List CK))} (hr : ∀ r esz ks, lk roms r = some (esz, ks) → Typed ks (ρ.z.rl r)) {ks : List CK} {sz : Nat} : ∀ (n : Nat) (cs : List SV) (l : LE), cs.length = n * sz → rowsL roms pc ks sz n cs = some l →
    (l.den ρ).length = n ∧ (l.den ρ).flatten = SV.denL ρ cs ∧ Typed ks (l.den ρ)
  | 0, cs, l, hl, h => by
    simp only [rowsL, Option.some.injEq] at h
    subst h
    have : cs = [] := List.eq_nil_of_length_eq_zero (by simpa using hl)
    subst this
    exact ⟨rfl, rfl, .nil _⟩
  | n + 1, cs, l, hl, h => by
    simp only [rowsL] at h
    split at h
    · rename_i a ha
      split at h
      · rename_i m hm
        cases h
        obtain ⟨q1, q2⟩ := toAL_ok hρ hp hr _ _ _ ha
        obtain ⟨r1, r2, r3⟩ := rowsL_ok hρ hp hr n (cs.drop sz) m (by rw [List.length_drop, hl, Nat.add_mul]; omega) hm
        rw [catE_den]
        simp only [LE.den, q1]
        refine ⟨by simp [r1], ?_, (Typed.one q2).app r3⟩
        rw [List.flatten_append, r2]
        simp only [List.flatten_cons, List.flatten_nil, List.append_nil]
        have : ∀ (x y : List SV), SV.denL ρ (x ++ y) = SV.denL ρ x ++ SV.denL ρ y := by
          intro x y
          induction x with
          | nil => simp [SV.denL]
          | cons v x ih => simp [SV.denL, ih]
        rw [← this, List.take_append_drop]
      · cases h
    · cases h
end
end Go.Proofs.Ytjgkaimgocnkmab.Sx
