/- A reckoner of Go's small steps over letters: what its words mean. No condition. -/
import Derived.Test.YtjgkaimgocnkmabSx3
set_option linter.unusedVariables false
set_option linter.unusedSimpArgs false
namespace Go.Proofs.Ytjgkaimgocnkmab.Sx
open Go

section lists
variable {α : Type}
theorem nth_eq (l : List α) (n : Nat) : nth l n = l[n]? := by
  induction l generalizing n with
  | nil => simp [nth]
  | cons x l ih =>
    cases n with
    | zero => rfl
    | succ n => have := ih n; simp only [nth] at this ⊢; simpa using this
theorem put_eq (l : List α) (n : Nat) (v : α) : put l n v = l.set n v := by
  induction l generalizing n with
  | nil => simp [put]
  | cons x l ih =>
    cases n with
    | zero => rfl
    | succ n => have := ih n; simp only [put] at this ⊢; simpa using this
theorem lk_nil (n : Nat) : lk ([] : List (Nat × α)) n = none := rfl
theorem lk_cons (m : Nat) (o : α) (l : List (Nat × α)) (n : Nat) : lk ((m, o) :: l) n = if m = n then some o else lk l n := by
  show Bool.rec (motive := fun _ => Option α) _ _ (Nat.beq m n) = _
  by_cases h : m = n
  · subst h; simp
  · have : Nat.beq m n = false := by cases hb : Nat.beq m n <;> simp_all
    rw [this, if_neg h]; rfl
theorem up_nil (n : Nat) (v : α) : up ([] : List (Nat × α)) n v = [] := rfl
theorem up_cons (m : Nat) (o : α) (l : List (Nat × α)) (n : Nat) (v : α) : up ((m, o) :: l) n v = if m = n then (n, v) :: l else (m, o) :: up l n v := by
  show Bool.rec (motive := fun _ => List (Nat × α)) _ _ (Nat.beq m n) = _
  by_cases h : m = n
  · subst h; simp
  · have : Nat.beq m n = false := by cases hb : Nat.beq m n <;> simp_all
    rw [this, if_neg h]; rfl
theorem lk_up (l : List (Nat × α)) (n m : Nat) (v : α) : lk (up l n v) m = if n = m then (lk l n).map (fun _ => v) else lk l m := by
  induction l with
  | nil => simp [up_nil, lk_nil]
  | cons p l ih =>
    obtain ⟨k, o⟩ := p
    rw [up_cons]
    by_cases h : k = n
    · subst h
      simp only [if_true, lk_cons]
      split <;> simp_all
    · rw [if_neg h, lk_cons, lk_cons, lk_cons, ih, if_neg h]
      by_cases h2 : k = m
      · subst h2
        simp [Ne.symm h]
      · simp [h2]
theorem fnat_eq {β : Type} (n : Nat) (k : Nat → β) : fnat n k = k n := by cases n <;> rfl
theorem fint_eq {β : Type} (n : Int) (k : Int → β) : fint n k = k n := by cases n <;> simp [fint, fnat_eq]
theorem fL_eq {β : Type} (l : List α) (k : List α → β) : fL l k = k l := by
  induction l generalizing k with
  | nil => rfl
  | cons x l ih => simp [fL, ih]
end lists
theorem IE.ind {M : IE → Prop} (lit : ∀ n, M (.lit n)) (var : ∀ k n, M (.var k n)) (add : ∀ x y, M x → M y → M (.add x y)) (sub : ∀ x y, M x → M y → M (.sub x y)) (mul : ∀ x y, M x → M y → M (.mul x y)) (wrap : ∀ k x, M x → M (.wrap k x))
    (bin : ∀ o k x y, M x → M y → M (.bin o k x y)) (cel : ∀ k l i j, M i → M (.cel k l i j)) (len : ∀ l, M (.len l)) (rcap : ∀ r, M (.rcap r)) (fn : ∀ k n a, M (.fn k n a)) (ite : ∀ c x y, M x → M y → M (.ite c x y)) : ∀ e, M e
  | .lit n => lit n
  | .var k n => var k n
  | .add x y => add x y (IE.ind lit var add sub mul wrap bin cel len rcap fn ite x) (IE.ind lit var add sub mul wrap bin cel len rcap fn ite y)
  | .sub x y => sub x y (IE.ind lit var add sub mul wrap bin cel len rcap fn ite x) (IE.ind lit var add sub mul wrap bin cel len rcap fn ite y)
  | .mul x y => mul x y (IE.ind lit var add sub mul wrap bin cel len rcap fn ite x) (IE.ind lit var add sub mul wrap bin cel len rcap fn ite y)
  | .wrap k x => wrap k x (IE.ind lit var add sub mul wrap bin cel len rcap fn ite x)
  | .bin o k x y => bin o k x y (IE.ind lit var add sub mul wrap bin cel len rcap fn ite x) (IE.ind lit var add sub mul wrap bin cel len rcap fn ite y)
  | .cel k l i j => cel k l i j (IE.ind lit var add sub mul wrap bin cel len rcap fn ite i)
  | .len l => len l
  | .rcap r => rcap r
  | .fn k n a => fn k n a
  | .ite c x y => ite c x y (IE.ind lit var add sub mul wrap bin cel len rcap fn ite x) (IE.ind lit var add sub mul wrap bin cel len rcap fn ite y)
theorem BE.ind {M : BE → Prop} (lit : ∀ n, M (.lit n)) (var : ∀ n, M (.var n)) (le : ∀ x y, M (.le x y)) (eq : ∀ x y, M (.eq x y)) (not : ∀ x, M x → M (.not x)) (and : ∀ x y, M x → M y → M (.and x y)) (iff : ∀ x y, M x → M y → M (.iff x y))
    (cel : ∀ l i j, M (.cel l i j)) (leq : ∀ a b, M (.leq a b)) (rnil : ∀ r, M (.rnil r)) (fn : ∀ n a, M (.fn n a)) : ∀ e, M e
  | .lit n => lit n
  | .var n => var n
  | .le x y => le x y
  | .eq x y => eq x y
  | .not x => not x (BE.ind lit var le eq not and iff cel leq rnil fn x)
  | .and x y => and x y (BE.ind lit var le eq not and iff cel leq rnil fn x) (BE.ind lit var le eq not and iff cel leq rnil fn y)
  | .iff x y => iff x y (BE.ind lit var le eq not and iff cel leq rnil fn x) (BE.ind lit var le eq not and iff cel leq rnil fn y)
  | .cel l i j => cel l i j
  | .leq a b => leq a b
  | .rnil r => rnil r
  | .fn n a => fn n a
theorem fIE_eq {β : Type} (e : IE) : ∀ k : IE → β, fIE e k = k e := by
  induction e using IE.ind <;> intro k <;> simp_all [fIE, fint_eq]
theorem fBE_eq {β : Type} (c : BE) : ∀ k : BE → β, fBE c k = k c := by
  induction c using BE.ind <;> intro k <;> simp_all [fBE, fIE_eq]
  split <;> rfl
theorem fSV_eq {β : Type} (v : SV) (k : SV → β) : fSV v k = k v := by
  cases v <;> simp [fSV, fIE_eq, fBE_eq, fnat_eq]

/- slots -/
theorem get2_eq (t : Slots) (i : Nat) : get2 t i = (t[i / 8]?).bind (·[i % 8]?) := by
  unfold get2
  rw [nth_eq]
  show (match t[i / 8]? with | some c => nth c (i % 8) | none => none) = _
  cases t[i / 8]? <;> simp [nth_eq]
theorem get2_put2 (t : Slots) (i j : Nat) (v : SV) : get2 (put2 t i v) j = if i = j then (get2 t j).map (fun _ => v) else get2 t j := by
  unfold put2
  rw [nth_eq]
  show get2 (match t[i / 8]? with | some c => put t (i / 8) (put c (i % 8) v) | none => t) j = _
  cases hc : t[i / 8]? with
  | none =>
    simp only []
    split
    · rename_i h; subst h
      simp [get2_eq, hc]
    · rfl
  | some c =>
    simp only [put_eq, get2_eq]
    have hlt : i / 8 < t.length := (List.getElem?_eq_some_iff.1 hc).1
    by_cases h8 : i / 8 = j / 8
    · rw [← h8, List.getElem?_set_self hlt, hc]
      simp only [Option.bind_some]
      by_cases hm : i % 8 = j % 8
      · have : i = j := by omega
        subst this
        rw [if_pos rfl, List.getElem?_set]
        simp only [if_true]
        split
        · rename_i h; rw [List.getElem?_eq_getElem h]; rfl
        · rename_i h; rw [List.getElem?_eq_none (by omega)]; rfl
      · have : i ≠ j := by rintro rfl; exact hm rfl
        rw [if_neg this, List.getElem?_set_ne hm]
    · have : i ≠ j := by rintro rfl; exact h8 rfl
      rw [if_neg this, List.getElem?_set_ne h8]
theorem get2_one (l : List SV) (h : l.length ≤ 8) (i : Nat) : get2 [l] i = l[i]? := by
  rw [get2_eq]
  by_cases h8 : i < 8
  · rw [show i / 8 = 0 by omega, show i % 8 = i by omega]; rfl
  · have h1 : ([l] : List (List SV))[i / 8]? = none := List.getElem?_eq_none (by simp; omega)
    rw [h1, List.getElem?_eq_none (by omega)]; rfl
theorem get2_chunk (n : Nat) : ∀ (l : List SV), l.length ≤ 8 * n → ∀ i, get2 (chunk n l) i = l[i]? := by
  induction n with
  | zero => intro l h i; have : l = [] := by cases l <;> simp_all
            subst this; simp [chunk, get2_eq]
  | succ n ih =>
    intro l h i
    match l, h with
    | [], h => simp [chunk, get2_eq]
    | a :: b :: c :: d :: e :: f :: g :: h :: l, hl =>
      simp only [chunk]
      have := ih l (by simp at hl; omega) (i - 8)
      by_cases h8 : i < 8
      · have : i / 8 = 0 := by omega
        rw [get2_eq, this]
        simp only [List.getElem?_cons_zero, Option.bind_some]
        have : i % 8 = i := by omega
        rw [this]
        match i, h8 with
        | 0, _ => rfl | 1, _ => rfl | 2, _ => rfl | 3, _ => rfl | 4, _ => rfl | 5, _ => rfl | 6, _ => rfl | 7, _ => rfl
      · obtain ⟨m, rfl⟩ : ∃ m, i = m + 8 := ⟨i - 8, by omega⟩
        simp only [Nat.add_sub_cancel] at this
        rw [get2_eq] at this ⊢
        rw [show (m + 8) / 8 = m / 8 + 1 by omega, show (m + 8) % 8 = m % 8 by omega]
        simp only [List.getElem?_cons_succ]
        exact this
    | [a], hl => exact get2_one _ (by simp) i
    | [a, b], hl => exact get2_one _ (by simp) i
    | [a, b, c], hl => exact get2_one _ (by simp) i
    | [a, b, c, d], hl => exact get2_one _ (by simp) i
    | [a, b, c, d, e], hl => exact get2_one _ (by simp) i
    | [a, b, c, d, e, f], hl => exact get2_one _ (by simp) i
    | [a, b, c, d, e, f, g], hl => exact get2_one _ (by simp) i

/- numbers -/
theorem ileb_iff (a b : Int) : ileb a b = true ↔ a ≤ b := by
  cases a <;> cases b <;> simp [ileb] <;> omega
theorem ileb_false (a b : Int) : ileb a b = false ↔ b < a := by
  rw [← Bool.not_eq_true, ileb_iff]; omega
theorem ieqb_iff (a b : Int) : ieqb a b = true ↔ a = b := by
  cases a <;> cases b <;> simp [ieqb] <;> omega
theorem keq_iff (a b : IntKind) : keq a b = true ↔ a = b := by
  cases a <;> cases b <;> simp [keq, kno]
theorem kmin_eq (k : IntKind) : kmin k = k.min := by cases k <;> simp [kmin, IntKind.min, IntKind.signed, IntKind.bits]
theorem kmax_eq (k : IntKind) : kmax k = k.max := by cases k <;> simp [kmax, IntKind.max, IntKind.signed, IntKind.bits]
theorem wrap_in (k : IntKind) (n : Int) (h1 : kmin k ≤ n) (h2 : n ≤ kmax k) : k.wrap n = n := by
  cases k <;> simp [kmin, kmax, IntKind.wrap, IntKind.signed, IntKind.bits] at * <;> omega
theorem wrap_lo (k : IntKind) (n : Int) : kmin k ≤ k.wrap n := by
  cases k <;> simp [kmin, kmax, IntKind.wrap, IntKind.signed, IntKind.bits] at * <;> omega
theorem wrap_hi (k : IntKind) (n : Int) : k.wrap n ≤ kmax k := by
  cases k <;> simp [kmin, kmax, IntKind.wrap, IntKind.signed, IntKind.bits] at * <;> omega
theorem bop_eq (o p : BinOp) (h : bopno o = bopno p) : o = p := by
  cases o <;> cases p <;> first | rfl | (simp [bopno] at h)
mutual
theorem IE.beq_eq : ∀ (a b : IE), a.beq b = true → a = b
  | .lit a, b, h => by cases b <;> simp [IE.beq, ieqb_iff] at h; rw [h]
  | .var k n, b, h => by cases b <;> simp [IE.beq, keq_iff] at h; rw [h.1, h.2]
  | .add x y, b, h => by cases b <;> simp [IE.beq] at h; rw [IE.beq_eq x _ h.1, IE.beq_eq y _ h.2]
  | .sub x y, b, h => by cases b <;> simp [IE.beq] at h; rw [IE.beq_eq x _ h.1, IE.beq_eq y _ h.2]
  | .mul x y, b, h => by cases b <;> simp [IE.beq] at h; rw [IE.beq_eq x _ h.1, IE.beq_eq y _ h.2]
  | .wrap k x, b, h => by cases b <;> simp [IE.beq, keq_iff] at h; rw [h.1, IE.beq_eq x _ h.2]
  | .bin op k x y, b, h => by
    cases b <;> simp [IE.beq, keq_iff] at h
    rw [bop_eq _ _ h.1, h.2.1, IE.beq_eq x _ h.2.2.1, IE.beq_eq y _ h.2.2.2]
  | .cel k l i j, b, h => by cases b <;> simp [IE.beq, keq_iff] at h; rw [h.1, h.2.1, IE.beq_eq i _ h.2.2.1, LE.beq_eq l _ h.2.2.2]
  | .len l, b, h => by cases b <;> simp [IE.beq] at h; rw [LE.beq_eq l _ h]
  | .rcap r, b, h => by cases b <;> simp [IE.beq] at h; rw [h]
  | .fn k n a, b, h => by cases b <;> simp [IE.beq, keq_iff] at h; rw [h.1, h.2.1, AL.beq_eq a _ h.2.2]
  | .ite c x y, b, h => by cases b <;> simp [IE.beq] at h; rw [BE.beq_eq c _ h.1, IE.beq_eq x _ h.2.1, IE.beq_eq y _ h.2.2]
theorem BE.beq_eq : ∀ (a b : BE), a.beq b = true → a = b
  | .lit a, b, h => by cases b <;> simp [BE.beq] at h; rw [h]
  | .var n, b, h => by cases b <;> simp [BE.beq] at h; rw [h]
  | .le x y, b, h => by cases b <;> simp [BE.beq] at h; rw [IE.beq_eq x _ h.1, IE.beq_eq y _ h.2]
  | .eq x y, b, h => by cases b <;> simp [BE.beq] at h; rw [IE.beq_eq x _ h.1, IE.beq_eq y _ h.2]
  | .not x, b, h => by cases b <;> simp [BE.beq] at h; rw [BE.beq_eq x _ h]
  | .and x y, b, h => by cases b <;> simp [BE.beq] at h; rw [BE.beq_eq x _ h.1, BE.beq_eq y _ h.2]
  | .iff x y, b, h => by cases b <;> simp [BE.beq] at h; rw [BE.beq_eq x _ h.1, BE.beq_eq y _ h.2]
  | .cel l i j, b, h => by cases b <;> simp [BE.beq] at h; rw [h.1, IE.beq_eq i _ h.2.1, LE.beq_eq l _ h.2.2]
  | .leq x y, b, h => by cases b <;> simp [BE.beq] at h; rw [LE.beq_eq x _ h.1, LE.beq_eq y _ h.2]
  | .rnil r, b, h => by cases b <;> simp [BE.beq] at h; rw [h]
  | .fn n a, b, h => by cases b <;> simp [BE.beq] at h; rw [h.1, AL.beq_eq a _ h.2]
theorem LE.beq_eq : ∀ (a b : LE), a.beq b = true → a = b
  | .nil, b, h => by cases b <;> simp [LE.beq] at h; rfl
  | .var n, b, h => by cases b <;> simp [LE.beq] at h; rw [h]
  | .rom n, b, h => by cases b <;> simp [LE.beq] at h; rw [h]
  | .cat x y, b, h => by cases b <;> simp [LE.beq] at h; rw [LE.beq_eq x _ h.1, LE.beq_eq y _ h.2]
  | .one c, b, h => by cases b <;> simp [LE.beq] at h; rw [AL.beq_eq c _ h]
  | .set x i c, b, h => by cases b <;> simp [LE.beq] at h; rw [IE.beq_eq i _ h.1, AL.beq_eq c _ h.2.1, LE.beq_eq x _ h.2.2]
  | .take x i, b, h => by cases b <;> simp [LE.beq] at h; rw [IE.beq_eq i _ h.1, LE.beq_eq x _ h.2]
  | .drop x i, b, h => by cases b <;> simp [LE.beq] at h; rw [IE.beq_eq i _ h.1, LE.beq_eq x _ h.2]
  | .rep c n, b, h => by cases b <;> simp [LE.beq] at h; rw [IE.beq_eq n _ h.1, AL.beq_eq c _ h.2]
  | .str l i j, b, h => by cases b <;> simp [LE.beq] at h; rw [h.1, IE.beq_eq i _ h.2.1, LE.beq_eq l _ h.2.2]
  | .fn n a, b, h => by cases b <;> simp [LE.beq] at h; rw [h.1, AL.beq_eq a _ h.2]
theorem AL.beq_eq : ∀ (a b : AL), a.beq b = true → a = b
  | .nil, b, h => by cases b <;> simp [AL.beq] at h; rfl
  | .int k e r, b, h => by cases b <;> simp [AL.beq, keq_iff] at h; rw [h.1, IE.beq_eq e _ h.2.1, AL.beq_eq r _ h.2.2]
  | .bool e r, b, h => by cases b <;> simp [AL.beq] at h; rw [BE.beq_eq e _ h.1, AL.beq_eq r _ h.2]
  | .lst e r, b, h => by cases b <;> simp [AL.beq] at h; rw [LE.beq_eq e _ h.1, AL.beq_eq r _ h.2]
  | .cel l i j r, b, h => by cases b <;> simp [AL.beq] at h; rw [h.1, IE.beq_eq i _ h.2.1, LE.beq_eq l _ h.2.2.1, AL.beq_eq r _ h.2.2.2]
end

/- what is known -/
/-- A cell of a kind. -/
def conf1 : CK → Value → Bool
  | .int k, .int j n => if keq k j then (if ileb (kmin k) n then ileb n (kmax k) else false) else false
  | .bool, .bool _ => true
  | .str, .string _ => true
  | .any, v => v.oneCell'
  | _, _ => false
def conf : List CK → List Value → Bool
  | [], [] => true
  | k :: ks, v :: vs => if conf1 k v then conf ks vs else false
  | _, _ => false
def Typed (ks : List CK) (l : LV) : Prop := ∀ e ∈ l, conf ks e = true
structure Rho.Ok (ρ : Rho) : Prop where
  lo : ∀ k n, kmin k ≤ ρ.i k n
  hi : ∀ k n, ρ.i k n ≤ kmax k
  ll : ∀ n, ((ρ.l n).length : Int) ≤ 9223372036854775807
  lodd : ∀ n, oddN n = true → Typed byteK (ρ.l n)
  rl : ∀ r, ((ρ.z.rl r).length : Int) ≤ 9223372036854775807
  fodd : ∀ n a, oddN n = true → Typed byteK (ρ.z.F.l n a)
def Holds (ρ : Rho) (pc : List BE) : Prop := ∀ p ∈ pc, p.den ρ = true
/-- e is within these bounds. -/
def Within (n : Int) (r : Option Int × Option Int) : Prop := (∀ a, r.1 = some a → a ≤ n) ∧ (∀ b, r.2 = some b → n ≤ b)
section
variable {ρ : Rho}
theorem den_le_t {x y : IE} : (BE.le x y).den ρ = true ↔ x.den ρ ≤ y.den ρ := by unfold BE.den; exact decide_eq_true_iff
theorem den_le_f {x y : IE} : (BE.le x y).den ρ = false ↔ ¬ x.den ρ ≤ y.den ρ := by unfold BE.den; exact decide_eq_false_iff_not
theorem den_eq_t {x y : IE} : (BE.eq x y).den ρ = true ↔ x.den ρ = y.den ρ := by unfold BE.den; exact decide_eq_true_iff
theorem den_eq_f {x y : IE} : (BE.eq x y).den ρ = false ↔ ¬ x.den ρ = y.den ρ := by unfold BE.den; exact decide_eq_false_iff_not
theorem den_not {x : BE} : (BE.not x).den ρ = !x.den ρ := rfl
theorem den_lit {n : Int} : (IE.lit n).den ρ = n := rfl
theorem Holds.tail {p : BE} {pc : List BE} (h : Holds ρ (p :: pc)) : Holds ρ pc := fun q hq => h q (List.mem_cons_of_mem _ hq)
theorem Holds.head {p : BE} {pc : List BE} (h : Holds ρ (p :: pc)) : p.den ρ = true := h p (List.mem_cons_self ..)
theorem Holds.cons {p : BE} {pc : List BE} (h : Holds ρ pc) (hp : p.den ρ = true) : Holds ρ (p :: pc) := by
  intro q hq
  rcases List.mem_cons.1 hq with rfl | hq
  · exact hp
  · exact h q hq
theorem omax_le {o : Option Int} {b n : Int} (ho : ∀ a, o = some a → a ≤ n) (hb : b ≤ n) : ∀ a, omax o b = some a → a ≤ n := by
  intro a ha
  cases o with
  | none => simp [omax] at ha; omega
  | some c =>
    simp only [omax] at ha
    have := ho c rfl
    split at ha <;> (cases ha; omega)
theorem omin_le {o : Option Int} {b n : Int} (ho : ∀ a, o = some a → n ≤ a) (hb : n ≤ b) : ∀ a, omin o b = some a → n ≤ a := by
  intro a ha
  cases o with
  | none => simp [omin] at ha; omega
  | some c =>
    simp only [omin] at ha
    have := ho c rfl
    split at ha <;> (cases ha; omega)
theorem omin_lo {x y a n : Int} (h : omin (some x) y = some a) (hx : x ≤ n) : a ≤ n := by
  simp only [omin] at h
  split at h <;> (cases h) <;> rename_i hb
  · exact hx
  · simp [ileb_iff] at hb; omega
theorem omin_lo' {x y a n : Int} (h : omin (some x) y = some a) (hx : y ≤ n) : a ≤ n := by
  simp only [omin] at h
  split at h <;> (cases h) <;> rename_i hb
  · rw [ileb_iff] at hb; omega
  · exact hx
theorem omax_hi {x y a n : Int} (h : omax (some x) y = some a) (hx : n ≤ x) : n ≤ a := by
  simp only [omax] at h
  split at h <;> (cases h) <;> rename_i hb
  · rw [ileb_iff] at hb; omega
  · exact hx
theorem omax_hi' {x y a n : Int} (h : omax (some x) y = some a) (hx : n ≤ y) : n ≤ a := by
  simp only [omax] at h
  split at h <;> (cases h) <;> rename_i hb
  · exact hx
  · simp [ileb_iff] at hb; omega
theorem clampK_lo (k : IntKind) (n : Int) : kmin k ≤ clampK k n := by
  unfold clampK
  split
  · rename_i h; exact h.1
  · cases k <;> decide
theorem clampK_hi (k : IntKind) (n : Int) : clampK k n ≤ kmax k := by
  unfold clampK
  split
  · rename_i h; exact h.2
  · cases k <;> decide
theorem low1_le {e : IE} {p : BE} {o : Option Int} (hp : p.den ρ = true) (ho : ∀ a, o = some a → a ≤ e.den ρ) : ∀ a, low1 e p o = some a → a ≤ e.den ρ := by
  unfold low1
  revert hp
  split <;> intro hp
  · split
    · rename_i h
      have := IE.beq_eq _ _ h
      subst this
      simp only [fint_eq]
      simp only [den_not, Bool.not_eq_true', den_le_t, den_le_f, den_eq_t, den_lit] at hp
      exact omax_le ho (by omega)
    · exact ho
  · split
    · rename_i h
      have := IE.beq_eq _ _ h
      subst this
      simp only [den_not, Bool.not_eq_true', den_le_t, den_le_f, den_eq_t, den_lit] at hp
      exact omax_le ho (by omega)
    · exact ho
  · split
    · rename_i h
      have := IE.beq_eq _ _ h
      subst this
      simp only [den_not, Bool.not_eq_true', den_le_t, den_le_f, den_eq_t, den_lit] at hp
      exact omax_le ho (by omega)
    · exact ho
  · exact ho
theorem high1_le {e : IE} {p : BE} {o : Option Int} (hp : p.den ρ = true) (ho : ∀ a, o = some a → e.den ρ ≤ a) : ∀ a, high1 e p o = some a → e.den ρ ≤ a := by
  unfold high1
  revert hp
  split <;> intro hp
  · split
    · rename_i h
      have := IE.beq_eq _ _ h
      subst this
      simp only [den_not, Bool.not_eq_true', den_le_t, den_le_f, den_eq_t, den_lit] at hp
      exact omin_le ho (by omega)
    · exact ho
  · split
    · rename_i h
      have := IE.beq_eq _ _ h
      subst this
      simp only [fint_eq]
      simp only [den_not, Bool.not_eq_true', den_le_t, den_le_f, den_eq_t, den_lit] at hp
      exact omin_le ho (by omega)
    · exact ho
  · split
    · rename_i h
      have := IE.beq_eq _ _ h
      subst this
      simp only [den_not, Bool.not_eq_true', den_le_t, den_le_f, den_eq_t, den_lit] at hp
      exact omin_le ho (by omega)
    · exact ho
  · exact ho
theorem lows_le {e : IE} {pc : List BE} {o : Option Int} (hp : Holds ρ pc) (ho : ∀ a, o = some a → a ≤ e.den ρ) : ∀ a, lows pc e o = some a → a ≤ e.den ρ := by
  unfold lows
  induction pc with
  | nil => exact ho
  | cons p pc ih => exact low1_le hp.head (ih hp.tail)
theorem highs_le {e : IE} {pc : List BE} {o : Option Int} (hp : Holds ρ pc) (ho : ∀ a, o = some a → e.den ρ ≤ a) : ∀ a, highs pc e o = some a → e.den ρ ≤ a := by
  unfold highs
  induction pc with
  | nil => exact ho
  | cons p pc ih => exact high1_le hp.head (ih hp.tail)
theorem nonneg_some {o : Option Int} (h : nonneg o = true) : ∃ a, o = some a ∧ 0 ≤ a := by
  cases o with
  | none => simp [nonneg] at h
  | some a => exact ⟨a, rfl, by simpa [nonneg, ileb_iff] using h⟩
theorem above0_some {o : Option Int} (h : above0 o = true) : ∃ a, o = some a ∧ 1 ≤ a := by
  cases o with
  | none => simp [above0] at h
  | some a => exact ⟨a, rfl, by simpa [above0, ileb_iff] using h⟩
theorem maskOk_lit {k : IntKind} {y : IE} (h : maskOk k y = true) : ∃ m, y = .lit m ∧ 0 ≤ m ∧ m ≤ kmax k := by
  cases y <;> simp [maskOk, ileb_iff] at h
  exact ⟨_, rfl, h.1, h.2⟩
theorem and_mask (k : IntKind) (x m : Int) (h0 : 0 ≤ m) (h1 : m ≤ kmax k) : 0 ≤ binI .and k x m ∧ binI .and k x m ≤ m := by
  have hb : (BitVec.ofInt k.bits m).toNat = m.toNat := by
    rw [BitVec.toNat_ofInt]
    have : m % ((2 ^ k.bits : Nat) : Int) = m := Int.emod_eq_of_lt h0 (by cases k <;> simp [kmax, IntKind.bits] at * <;> omega)
    rw [this]
  have hle : ((BitVec.ofInt k.bits x &&& BitVec.ofInt k.bits m).toNat) ≤ m.toNat := by
    rw [BitVec.toNat_and, hb]; exact Nat.and_le_right
  have hw : binI .and k x m = ((BitVec.ofInt k.bits x &&& BitVec.ofInt k.bits m).toNat : Int) := by
    show k.wrap _ = _
    exact wrap_in k _ (by cases k <;> simp [kmin] <;> omega) (by omega)
  rw [hw]; omega
theorem fdiv_bounds (x : Int) (n : Nat) (hx : 0 ≤ x) : 0 ≤ x.fdiv (2 ^ n) ∧ x.fdiv (2 ^ n) ≤ x := by
  have hp : (0 : Int) < 2 ^ n := Int.pow_pos (by decide)
  rw [Int.fdiv_eq_ediv_of_nonneg _ (by omega)]
  exact ⟨Int.ediv_nonneg hx (by omega), Int.ediv_le_self _ hx⟩
theorem tdiv_bounds (x y : Int) (hx : 0 ≤ x) (hy : 0 ≤ y) : 0 ≤ x.tdiv y ∧ x.tdiv y ≤ x := by
  rw [Int.tdiv_eq_ediv_of_nonneg hx]
  exact ⟨Int.ediv_nonneg hx hy, Int.ediv_le_self _ hx⟩
theorem tmod_bounds (x y : Int) (hx : 0 ≤ x) : 0 ≤ x.tmod y ∧ x.tmod y ≤ x ∧ (1 ≤ y → x.tmod y ≤ y - 1) := by
  refine ⟨Int.tmod_nonneg _ hx, ?_, ?_⟩
  · have h1 := Int.tmod_add_mul_tdiv x y
    rcases Int.lt_or_le y 0 with hy | hy
    · have h2 : 0 ≤ y * x.tdiv y := by
        have : x.tdiv y ≤ 0 := Int.tdiv_nonpos_of_nonneg_of_nonpos hx (by omega)
        exact Int.mul_nonneg_of_nonpos_of_nonpos (by omega) this
      omega
    · have := Int.mul_nonneg hy (tdiv_bounds x y hx hy).1
      omega
  · intro hy
    have := Int.tmod_lt_of_pos x (show 0 < y by omega)
    omega
theorem binLo_le {op : BinOp} {k : IntKind} {x y : IE} {rx ry : Option Int × Option Int} (hx : Within (x.den ρ) rx) (hy : Within (y.den ρ) ry) : ∀ a, binLo op k y rx ry = some a → a ≤ binI op k (x.den ρ) (y.den ρ) := by
  intro a ha
  cases op <;> simp only [binLo] at ha <;> first
    | (cases ha; done)
    | (cases ha; exact wrap_lo _ _)
    | skip
  · split at ha
    · rename_i h1
      split at ha
      · rename_i h2
        split at ha
        · rename_i h3
          cases ha
          obtain ⟨p, e1, p0⟩ := nonneg_some h1
          obtain ⟨q, e2, q0⟩ := nonneg_some h2
          have hx0 := hx.1 _ e1
          have hy0 := hy.1 _ e2
          cases h4 : rx.2 with
          | none => simp [h4, upTo] at h3
          | some u =>
            simp [h4, upTo, ileb_iff] at h3
            have hxu := hx.2 _ h4
            obtain ⟨t1, t2⟩ := tdiv_bounds (x.den ρ) (y.den ρ) (by omega) (by omega)
            show 0 ≤ k.wrap _
            rw [wrap_in k _ (by cases k <;> simp [kmin] <;> omega) (by omega)]
            exact t1
        · cases ha
      · cases ha
    · cases ha
  · split at ha
    · rename_i h1
      cases ha
      obtain ⟨p, e1, p0⟩ := nonneg_some h1
      exact (tmod_bounds _ _ (by have := hx.1 _ e1; omega)).1
    · cases ha
  · split at ha
    · rename_i h1
      simp only [Option.some.injEq] at ha
      obtain ⟨m, hm, m0, m1⟩ := maskOk_lit h1
      have e : (IE.den ρ y) = m := by rw [hm]; rfl
      rw [e, ← ha]
      exact (and_mask k _ m m0 m1).1
    · cases ha
  · split at ha
    · rename_i h1
      cases ha
      obtain ⟨p, e1, p0⟩ := nonneg_some h1
      exact (fdiv_bounds _ _ (by have := hx.1 _ e1; omega)).1
    · cases ha
theorem binHi_le {op : BinOp} {k : IntKind} {x y : IE} {rx ry : Option Int × Option Int} (hx : Within (x.den ρ) rx) (hy : Within (y.den ρ) ry) : ∀ a, binHi op k y rx ry = some a → binI op k (x.den ρ) (y.den ρ) ≤ a := by
  intro a ha
  cases op <;> simp only [binHi] at ha <;> first
    | (cases ha; done)
    | (cases ha; exact wrap_hi _ _)
    | skip
  · split at ha
    · rename_i h1
      split at ha
      · rename_i h2
        split at ha
        · rename_i h3
          obtain ⟨p, e1, p0⟩ := nonneg_some h1
          obtain ⟨q, e2, q0⟩ := nonneg_some h2
          have hx0 := hx.1 _ e1
          have hy0 := hy.1 _ e2
          simp [ha, upTo, ileb_iff] at h3
          have hxu := hx.2 _ ha
          obtain ⟨t1, t2⟩ := tdiv_bounds (x.den ρ) (y.den ρ) (by omega) (by omega)
          show k.wrap _ ≤ a
          rw [wrap_in k _ (by cases k <;> simp [kmin] <;> omega) (by omega)]
          omega
        · cases ha
      · cases ha
    · cases ha
  · split at ha
    · rename_i h1
      obtain ⟨p, e1, p0⟩ := nonneg_some h1
      obtain ⟨t1, t2, t3⟩ := tmod_bounds (x.den ρ) (y.den ρ) (by have := hx.1 _ e1; omega)
      show Int.tmod _ _ ≤ a
      split at ha
      · rename_i h2
        obtain ⟨q, e2, q0⟩ := above0_some h2
        have hy0 := hy.1 _ e2
        split at ha
        · rename_i b hb
          rw [fint_eq] at ha
          have hb' := hy.2 _ hb
          exact omin_le (fun c hc => Int.le_trans t2 (hx.2 _ hc)) (by have := t3 (by omega); omega) a ha
        · exact Int.le_trans t2 (hx.2 _ ha)
      · exact Int.le_trans t2 (hx.2 _ ha)
    · cases ha
  · split at ha
    · rename_i h1
      obtain ⟨m, hm, m0, m1⟩ := maskOk_lit h1
      have e : (IE.den ρ y) = m := by rw [hm]; rfl
      rw [hm] at ha
      simp only [litO, Option.some.injEq] at ha
      rw [e, ← ha]
      exact (and_mask k _ m m0 m1).2
    · cases ha
  · split at ha
    · rename_i h1
      obtain ⟨p, e1, p0⟩ := nonneg_some h1
      exact Int.le_trans (fdiv_bounds _ _ (by have := hx.1 _ e1; omega)).2 (hx.2 _ ha)
    · cases ha
theorem rng_in (hρ : ρ.Ok) {pc : List BE} (hp : Holds ρ pc) : ∀ e : IE, Within (e.den ρ) (rng pc e)
  | .lit n => by simp [rng, Within, IE.den]
  | .var k n => ⟨lows_le hp (by rintro a ⟨⟩; exact hρ.lo k n), highs_le hp (by rintro a ⟨⟩; exact hρ.hi k n)⟩
  | .add x y => by
    have hx := rng_in hρ hp x
    have hy := rng_in hρ hp y
    refine ⟨lows_le hp ?_, highs_le hp ?_⟩
    · intro a ha
      cases h1 : (rng pc x).1 <;> cases h2 : (rng pc y).1 <;> simp [oadd, h1, h2, fint_eq] at ha
      have := hx.1 _ h1
      have := hy.1 _ h2
      simp only [IE.den]; omega
    · intro a ha
      cases h1 : (rng pc x).2 <;> cases h2 : (rng pc y).2 <;> simp [oadd, h1, h2, fint_eq] at ha
      have := hx.2 _ h1
      have := hy.2 _ h2
      simp only [IE.den]; omega
  | .sub x y => by
    have hx := rng_in hρ hp x
    have hy := rng_in hρ hp y
    refine ⟨lows_le hp ?_, highs_le hp ?_⟩
    · intro a ha
      cases h1 : (rng pc x).1 <;> cases h2 : (rng pc y).2 <;> simp [osub, h1, h2, fint_eq] at ha
      have := hx.1 _ h1
      have := hy.2 _ h2
      simp only [IE.den]; omega
    · intro a ha
      cases h1 : (rng pc x).2 <;> cases h2 : (rng pc y).1 <;> simp [osub, h1, h2, fint_eq] at ha
      have := hx.2 _ h1
      have := hy.1 _ h2
      simp only [IE.den]; omega
  | .mul x y => ⟨lows_le hp (by rintro a ⟨⟩), highs_le hp (by rintro a ⟨⟩)⟩
  | .wrap k x => ⟨lows_le hp (by rintro a ⟨⟩; exact wrap_lo _ _), highs_le hp (by rintro a ⟨⟩; exact wrap_hi _ _)⟩
  | .bin op k x y => ⟨lows_le hp (binLo_le (rng_in hρ hp x) (rng_in hρ hp y)), highs_le hp (binHi_le (rng_in hρ hp x) (rng_in hρ hp y))⟩
  | .cel k l i j => ⟨lows_le hp (by rintro a ⟨⟩; exact clampK_lo k _), highs_le hp (by rintro a ⟨⟩; exact clampK_hi k _)⟩
  | .fn k n a => ⟨lows_le hp (by rintro b ⟨⟩; exact clampK_lo k _), highs_le hp (by rintro b ⟨⟩; exact clampK_hi k _)⟩
  | .len l => ⟨lows_le hp (by rintro a ⟨⟩; simp only [IE.den, lenV]; omega), highs_le hp (by
      intro a ha
      cases l <;> simp [lenTop] at ha
      · subst ha; exact hρ.ll _
      · subst ha; exact hρ.rl _)⟩
  | .rcap r => ⟨lows_le hp (by rintro a ⟨⟩; simp only [IE.den]; omega), highs_le hp (by rintro a ⟨⟩)⟩
  | .ite c x y => by
    have hx := rng_in hρ hp x
    have hy := rng_in hρ hp y
    refine ⟨lows_le hp ?_, highs_le hp ?_⟩
    · intro a ha
      cases h1 : (rng pc x).1 <;> cases h2 : (rng pc y).1 <;> simp [oboth, h1, h2] at ha
      have q1 := hx.1 _ h1
      have q2 := hy.1 _ h2
      simp only [IE.den]
      split
      · exact omin_lo ha (by omega)
      · exact omin_lo' ha (by omega)
    · intro a ha
      cases h1 : (rng pc x).2 <;> cases h2 : (rng pc y).2 <;> simp [oboth, h1, h2] at ha
      have q1 := hx.2 _ h1
      have q2 := hy.2 _ h2
      simp only [IE.den]
      split
      · exact omax_hi ha (by omega)
      · exact omax_hi' ha (by omega)
/-! Linear reasoning. -/
def ldot (vs : Nat → Int) : List Int → Int
  | [] => 0
  | a :: l => a * vs 0 + ldot (fun i => vs (i + 1)) l
def LF.den (vs : Nat → Int) (c : LF) : Int := c.1 + ldot vs c.2
theorem ldot_vadd : ∀ (l m : List Int) (vs : Nat → Int), ldot vs (vadd l m) = ldot vs l + ldot vs m
  | [], m, vs => by simp [vadd, ldot]
  | a :: l, [], vs => by simp [vadd, ldot]
  | a :: l, b :: m, vs => by
    simp only [vadd, fint_eq, ldot, ldot_vadd l m, Int.add_mul]
    omega
theorem ldot_vscale (k : Int) : ∀ (l : List Int) (vs : Nat → Int), ldot vs (vscale k l) = k * ldot vs l
  | [], vs => by simp [vscale, ldot]
  | a :: l, vs => by simp only [vscale, fint_eq, ldot, ldot_vscale k l, Int.mul_add, Int.mul_assoc]
theorem ladd_den (vs : Nat → Int) (x y : LF) : (ladd x y).den vs = x.den vs + y.den vs := by
  simp only [ladd, fint_eq, fL_eq, LF.den, ldot_vadd]
  omega
theorem lscale_den (vs : Nat → Int) (k : Int) (x : LF) : (lscale k x).den vs = k * x.den vs := by
  simp only [lscale, fint_eq, fL_eq, LF.den, ldot_vscale, Int.mul_add]
noncomputable def valsOf (ρ : Rho) (as : List IE) (i : Nat) : Int := ((as[i]?).map (IE.den ρ)).getD 0
theorem unitA_den (e : IE) : ∀ (as : List IE) (l : List Int), unitA e as = some l → ldot (valsOf ρ as) l = e.den ρ
  | [], l, h => by simp [unitA] at h
  | a :: as, l, h => by
    simp only [unitA] at h
    split at h
    · rename_i hb
      cases h
      rw [← IE.beq_eq _ _ hb]
      simp [ldot, valsOf]
    · split at h
      · rename_i v hv
        cases h
        simp only [ldot, Int.zero_mul, Int.zero_add]
        rw [← unitA_den e as v hv]
        congr 1
      · cases h
theorem unitL_den {as : List IE} {e : IE} {c : LF} (h : unitL as e = some c) : c.den (valsOf ρ as) = e.den ρ := by
  unfold unitL at h
  split at h
  · rename_i v hv
    cases h
    simp [LF.den, unitA_den e as v hv]
  · cases h
theorem oladd_some {a b : Option LF} {c : LF} (h : oladd a b = some c) : ∃ x y, a = some x ∧ b = some y ∧ c = ladd x y := by
  unfold oladd at h
  split at h
  · cases h; exact ⟨_, _, rfl, rfl, rfl⟩
  · cases h
theorem olscale_some {k : Int} {a : Option LF} {c : LF} (h : olscale k a = some c) : ∃ x, a = some x ∧ c = lscale k x := by
  unfold olscale at h
  split at h
  · cases h; exact ⟨_, rfl, rfl⟩
  · cases h
theorem linOf_den (as : List IE) : ∀ (e : IE) (c : LF), linOf as e = some c → c.den (valsOf ρ as) = e.den ρ
  | .lit n, c, h => by simp only [linOf] at h; cases h; simp [LF.den, ldot, IE.den]
  | .add x y, c, h => by
    simp only [linOf] at h
    obtain ⟨a, b, ha, hb, rfl⟩ := oladd_some h
    rw [ladd_den, linOf_den as x a ha, linOf_den as y b hb]; rfl
  | .sub x y, c, h => by
    simp only [linOf] at h
    obtain ⟨a, b, ha, hb, rfl⟩ := oladd_some h
    obtain ⟨b', hb', rfl⟩ := olscale_some hb
    rw [ladd_den, lscale_den, linOf_den as x a ha, linOf_den as y b' hb']
    simp only [IE.den]; omega
  | .mul x y, c, h => by
    unfold linOf at h
    split at h
    · obtain ⟨b', hb', rfl⟩ := olscale_some h
      rw [lscale_den, linOf_den as y b' hb']; rfl
    · split at h
      · obtain ⟨b', hb', rfl⟩ := olscale_some h
        rw [lscale_den, linOf_den as x b' hb', Int.mul_comm]; rfl
      · exact unitL_den h
  | .var k n, c, h => unitL_den h
  | .wrap k x, c, h => unitL_den h
  | .bin o k x y, c, h => unitL_den h
  | .cel k l i j, c, h => unitL_den h
  | .len l, c, h => unitL_den h
  | .rcap r, c, h => unitL_den h
  | .fn k n a, c, h => unitL_den h
  | .ite a x y, c, h => unitL_den h
theorem leL_den {as : List IE} {x y : IE} {c : LF} (h : leL as x y = some c) : c.den (valsOf ρ as) = y.den ρ - x.den ρ := by
  obtain ⟨a, b, ha, hb, rfl⟩ := oladd_some h
  obtain ⟨b', hb', rfl⟩ := olscale_some hb
  rw [ladd_den, lscale_den, linOf_den as y a ha, linOf_den as x b' hb']; omega
theorem ltL_den {as : List IE} {x y : IE} {c : LF} (h : ltL as x y = some c) : c.den (valsOf ρ as) = y.den ρ - x.den ρ - 1 := by
  obtain ⟨a, b, ha, hb, rfl⟩ := oladd_some h
  cases ha
  rw [ladd_den, leL_den hb]; simp only [LF.den, ldot]; omega
def AllGe (vs : Nat → Int) (cs : List LF) : Prop := ∀ c ∈ cs, 0 ≤ c.den vs
theorem AllGe.nil (vs : Nat → Int) : AllGe vs [] := fun c h => by cases h
theorem AllGe.cons {vs : Nat → Int} {c : LF} {cs : List LF} (h : 0 ≤ c.den vs) (hs : AllGe vs cs) : AllGe vs (c :: cs) := by
  intro x hx
  rcases List.mem_cons.1 hx with rfl | hx
  · exact h
  · exact hs x hx
theorem consO_ok {vs : Nat → Int} {o : Option LF} {cs : List LF} (ho : ∀ c, o = some c → 0 ≤ c.den vs) (h : AllGe vs cs) : AllGe vs (consO o cs) := by
  unfold consO
  split
  · exact .cons (ho _ rfl) h
  · exact h
theorem consOf_ok (as : List IE) : ∀ (p : BE) (cs : List LF), p.den ρ = true → AllGe (valsOf ρ as) cs → AllGe (valsOf ρ as) (consOf as p cs)
  | .le x y, cs, hp, h => consO_ok (fun c hc => by rw [leL_den hc]; have := den_le_t.1 hp; omega) h
  | .eq x y, cs, hp, h => consO_ok (fun c hc => by rw [leL_den hc]; have := den_eq_t.1 hp; omega) (consO_ok (fun c hc => by rw [leL_den hc]; have := den_eq_t.1 hp; omega) h)
  | .not (.le x y), cs, hp, h => consO_ok (fun c hc => by rw [ltL_den hc]; rw [den_not] at hp; have := den_le_f.1 (by simpa using hp); omega) h
  | .and p q, cs, hp, h => by
    simp only [BE.den, Bool.and_eq_true] at hp
    exact consOf_ok as q _ hp.2 (consOf_ok as p _ hp.1 h)
  | .lit _, cs, hp, h => h
  | .var _, cs, hp, h => h
  | .iff _ _, cs, hp, h => h
  | .not (.lit _), cs, hp, h => h
  | .not (.var _), cs, hp, h => h
  | .not (.eq _ _), cs, hp, h => h
  | .not (.not _), cs, hp, h => h
  | .not (.and _ _), cs, hp, h => h
  | .not (.iff _ _), cs, hp, h => h
  | .not (.cel _ _ _), cs, hp, h => h
  | .not (.leq _ _), cs, hp, h => h
  | .not (.rnil _), cs, hp, h => h
  | .not (.fn _ _), cs, hp, h => h
  | .cel _ _ _, cs, hp, h => h
  | .leq _ _, cs, hp, h => h
  | .rnil _, cs, hp, h => h
  | .fn _ _, cs, hp, h => h
theorem consAll_ok (as : List IE) : ∀ (pc : List BE) (cs : List LF), Holds ρ pc → AllGe (valsOf ρ as) cs → AllGe (valsOf ρ as) (consAll as pc cs)
  | [], cs, hp, h => h
  | p :: pc, cs, hp, h => consAll_ok as pc _ hp.tail (by
      split
      · exact h
      · exact consOf_ok as p cs hp.head h)
theorem bounds_ok (hρ : ρ.Ok) {pc : List BE} (hp : Holds ρ pc) (as : List IE) : ∀ (l : List IE) (cs : List LF), AllGe (valsOf ρ as) cs → AllGe (valsOf ρ as) (bounds pc as l cs)
  | [], cs, h => h
  | e :: l, cs, h => by
    have hr := rng_in hρ hp e
    refine bounds_ok hρ hp as l _ (consO_ok (fun c hc => ?_) (consO_ok (fun c hc => ?_) h))
    · split at hc
      · rename_i a ha
        rw [leL_den hc, den_lit]
        have := hr.1 a ha
        omega
      · cases hc
    · split at hc
      · rename_i a ha
        rw [leL_den hc, den_lit]
        have := hr.2 a ha
        omega
      · cases hc
theorem ldot_hd (vs : Nat → Int) (l : List Int) : ldot vs l = hd0 l * vs 0 + ldot (fun i => vs (i + 1)) (tl0 l) := by
  cases l <;> simp [ldot, hd0, tl0]
theorem split3_ok (vs : Nat → Int) : ∀ (cs z p n : List LF), AllGe vs cs → AllGe (fun i => vs (i + 1)) z → (AllGe vs p ∧ ∀ c ∈ p, 0 < hd0 c.2) → (AllGe vs n ∧ ∀ c ∈ n, hd0 c.2 < 0) →
    AllGe (fun i => vs (i + 1)) (split3 cs z p n).1 ∧ (AllGe vs (split3 cs z p n).2.1 ∧ ∀ c ∈ (split3 cs z p n).2.1, 0 < hd0 c.2) ∧ (AllGe vs (split3 cs z p n).2.2 ∧ ∀ c ∈ (split3 cs z p n).2.2, hd0 c.2 < 0)
  | [], z, p, n, h, hz, hp, hn => ⟨hz, hp, hn⟩
  | c :: cs, z, p, n, h, hz, hp, hn => by
    have hc := h c (List.mem_cons_self ..)
    have hcs : AllGe vs cs := fun x hx => h x (List.mem_cons_of_mem _ hx)
    simp only [split3]
    split
    · rename_i he
      refine split3_ok vs cs _ _ _ hcs (.cons ?_ hz) hp hn
      simp only [LF.den] at hc ⊢
      rw [ldot_hd, he] at hc
      simpa using hc
    · rename_i m he
      refine split3_ok vs cs _ _ _ hcs hz ⟨.cons hc hp.1, ?_⟩ hn
      intro x hx
      rcases List.mem_cons.1 hx with rfl | hx
      · rw [he]; show (0 : Int) < Int.ofNat (m + 1); simp
        try omega
      · exact hp.2 x hx
    · rename_i m he
      refine split3_ok vs cs _ _ _ hcs hz hp ⟨.cons hc hn.1, ?_⟩
      intro x hx
      rcases List.mem_cons.1 hx with rfl | hx
      · rw [he]; exact Int.negSucc_lt_zero _
      · exact hn.2 x hx
theorem combo_ok {vs : Nat → Int} {p n : LF} (hp : 0 ≤ p.den vs) (hp2 : 0 < hd0 p.2) (hn : 0 ≤ n.den vs) (hn2 : hd0 n.2 < 0) : 0 ≤ (combo p n).den (fun i => vs (i + 1)) := by
  have e : (ladd (lscale (-(hd0 n.2)) p) (lscale (hd0 p.2) n)).den vs = -(hd0 n.2) * p.den vs + hd0 p.2 * n.den vs := by rw [ladd_den, lscale_den, lscale_den]
  have ge : 0 ≤ -(hd0 n.2) * p.den vs + hd0 p.2 * n.den vs := Int.add_nonneg (Int.mul_nonneg (by omega) hp) (Int.mul_nonneg (by omega) hn)
  have hh : hd0 (ladd (lscale (-(hd0 n.2)) p) (lscale (hd0 p.2) n)).2 = 0 := by
    simp only [ladd, lscale, fint_eq, fL_eq]
    cases hpl : p.2 with
    | nil => simp [hpl, hd0] at hp2
    | cons a l =>
      cases hnl : n.2 with
      | nil => simp [hnl, hd0] at hn2
      | cons b m =>
        simp only [hd0, vscale, fint_eq, vadd]
        rw [Int.mul_comm a b, Int.neg_mul]; omega
  unfold combo
  rw [show (ladd (lscale (-(hd0 n.2)) p) (lscale (hd0 p.2) n)) = ((ladd (lscale (-(hd0 n.2)) p) (lscale (hd0 p.2) n)).1, (ladd (lscale (-(hd0 n.2)) p) (lscale (hd0 p.2) n)).2) from rfl]
  rw [← e] at ge
  simp only [LF.den] at ge ⊢
  rw [ldot_hd, hh] at ge
  simpa using ge
theorem combos1_ok {vs : Nat → Int} {p : LF} (hp : 0 ≤ p.den vs) (hp2 : 0 < hd0 p.2) : ∀ (ns acc : List LF), (AllGe vs ns ∧ ∀ c ∈ ns, hd0 c.2 < 0) → AllGe (fun i => vs (i + 1)) acc → AllGe (fun i => vs (i + 1)) (combos1 p ns acc)
  | [], acc, hn, h => h
  | n :: ns, acc, hn, h => combos1_ok hp hp2 ns _ ⟨fun x hx => hn.1 x (List.mem_cons_of_mem _ hx), fun x hx => hn.2 x (List.mem_cons_of_mem _ hx)⟩ (.cons (combo_ok hp hp2 (hn.1 n (List.mem_cons_self ..)) (hn.2 n (List.mem_cons_self ..))) h)
theorem combos_ok {vs : Nat → Int} : ∀ (ps ns acc : List LF), (AllGe vs ps ∧ ∀ c ∈ ps, 0 < hd0 c.2) → (AllGe vs ns ∧ ∀ c ∈ ns, hd0 c.2 < 0) → AllGe (fun i => vs (i + 1)) acc → AllGe (fun i => vs (i + 1)) (combos ps ns acc)
  | [], ns, acc, hp, hn, h => h
  | p :: ps, ns, acc, hp, hn, h => combos_ok ps ns _ ⟨fun x hx => hp.1 x (List.mem_cons_of_mem _ hx), fun x hx => hp.2 x (List.mem_cons_of_mem _ hx)⟩ hn (combos1_ok (hp.1 p (List.mem_cons_self ..)) (hp.2 p (List.mem_cons_self ..)) ns acc hn h)
theorem anyNeg_ok {vs : Nat → Int} : ∀ (cs : List LF), AllGe vs cs → anyNeg cs = true → False
  | [], h, hn => by simp [anyNeg] at hn
  | c :: cs, h, hn => by
    simp only [anyNeg] at hn
    split at hn
    · rename_i m h1 h2
      have := h c (List.mem_cons_self ..)
      simp only [LF.den, h1, h2, ldot] at this
      have := Int.negSucc_lt_zero m
      omega
    · exact anyNeg_ok cs (fun x hx => h x (List.mem_cons_of_mem _ hx)) hn
theorem fmGo_ok : ∀ (k : Nat) (vs : Nat → Int) (cs : List LF), AllGe vs cs → fmGo k cs = true → False
  | 0, vs, cs, h, hf => anyNeg_ok cs h hf
  | k + 1, vs, cs, h, hf => by
    simp only [fmGo] at hf
    obtain ⟨hz, hp, hn⟩ := split3_ok vs cs [] [] [] h (.nil _) ⟨.nil _, fun c hc => by cases hc⟩ ⟨.nil _, fun c hc => by cases hc⟩
    refine fmGo_ok k (fun i => vs (i + 1)) _ ?_ hf
    split
    · exact combos_ok _ _ _ hp hn hz
    · exact hz
theorem refutes_ok {vs : Nat → Int} {k : Nat} {o : Option LF} {cs : List LF} (h : AllGe vs cs) (hr : refutes k o cs = true) : ∃ c, o = some c ∧ ¬ 0 ≤ c.den vs := by
  unfold refutes at hr
  split at hr
  · rename_i c
    exact ⟨c, rfl, fun hc => fmGo_ok k vs _ (.cons hc h) hr⟩
  · cases hr
theorem leF_den (hρ : ρ.Ok) {pc : List BE} (hp : Holds ρ pc) (x y : IE) (r : Bool) (h : leF pc x y = some r) : decide (x.den ρ ≤ y.den ρ) = r := by
  unfold leF at h
  split at h
  · simp only [fL_eq] at h
    have hall : AllGe (valsOf ρ (growA (growA (growA (atomsOf y (atomsOf x [])) pc) pc) pc)) (bounds pc (growA (growA (growA (atomsOf y (atomsOf x [])) pc) pc) pc) (growA (growA (growA (atomsOf y (atomsOf x [])) pc) pc) pc) (consAll (growA (growA (growA (atomsOf y (atomsOf x [])) pc) pc) pc) pc [])) :=
      bounds_ok hρ hp _ _ _ (consAll_ok _ pc [] hp (.nil _))
    split at h
    · rename_i h1
      cases h
      obtain ⟨c, hc, hn⟩ := refutes_ok hall h1
      rw [ltL_den hc] at hn
      simp; omega
    · split at h
      · rename_i h1
        cases h
        obtain ⟨c, hc, hn⟩ := refutes_ok hall h1
        rw [leL_den hc] at hn
        simp; omega
      · cases h
  · cases h
theorem eqF_den (hρ : ρ.Ok) {pc : List BE} (hp : Holds ρ pc) (x y : IE) (r : Bool) (h : eqF pc x y = some r) : decide (x.den ρ = y.den ρ) = r := by
  unfold eqF at h
  split at h
  · rename_i h1
    cases h
    have := leF_den hρ hp _ _ _ h1
    simp at this ⊢; omega
  · rename_i h1
    have a1 := leF_den hρ hp _ _ _ h1
    have a2 := leF_den hρ hp _ _ _ h
    rw [← a2]
    simp at a1 ⊢; omega
  · split at h
    · rename_i h1
      cases h
      have := leF_den hρ hp _ _ _ h1
      simp at this ⊢; omega
    · cases h
theorem wrapK_den (hρ : ρ.Ok) {pc : List BE} (hp : Holds ρ pc) (k : IntKind) (e : IE) : (wrapK k pc e).den ρ = k.wrap (e.den ρ) := by
  unfold wrapK
  split
  · rename_i h
    have hr := rng_in hρ hp e
    obtain ⟨lo, hi⟩ := hr
    generalize rng pc e = r at *
    obtain ⟨a, b⟩ := r
    cases a <;> cases b <;> simp [oin] at h
    rename_i a b
    rw [ileb_iff, ileb_iff] at h
    have := lo a rfl
    have := hi b rfl
    exact (wrap_in k _ (by omega) (by omega)).symm
  · split
    · rename_i h1
      split
      · rename_i h2
        have a1 := of_decide_eq_true (leF_den hρ hp _ _ _ h1)
        have a2 := of_decide_eq_true (leF_den hρ hp _ _ _ h2)
        exact (wrap_in k _ a1 a2).symm
      · rfl
    · rfl
theorem litK_den (k : IntKind) (n : Int) : (litK k n).den ρ = k.wrap n := by
  unfold litK
  split
  · split
    · rename_i h1 h2
      rw [ileb_iff] at h1 h2
      exact (wrap_in k n h1 h2).symm
    · rw [fint_eq]; rfl
  · rw [fint_eq]; rfl
theorem mkAdd_den (hρ : ρ.Ok) {pc : List BE} (hp : Holds ρ pc) (k : IntKind) (x y : IE) : (mkAdd k pc x y).den ρ = k.wrap (x.den ρ + y.den ρ) := by
  unfold mkAdd
  split
  · rw [fint_eq, litK_den]; rfl
  · rw [wrapK_den hρ hp]; rfl
theorem mkSub_den (hρ : ρ.Ok) {pc : List BE} (hp : Holds ρ pc) (k : IntKind) (x y : IE) : (mkSub k pc x y).den ρ = k.wrap (x.den ρ - y.den ρ) := by
  unfold mkSub
  split
  · rw [fint_eq, litK_den]; rfl
  · rw [wrapK_den hρ hp]; rfl
theorem mkMul_den (hρ : ρ.Ok) {pc : List BE} (hp : Holds ρ pc) (k : IntKind) (x y : IE) : (mkMul k pc x y).den ρ = k.wrap (x.den ρ * y.den ρ) := by
  unfold mkMul
  split
  · rw [fint_eq, litK_den]; rfl
  · rw [wrapK_den hρ hp]; rfl
theorem mkConv_den (hρ : ρ.Ok) {pc : List BE} (hp : Holds ρ pc) (k : IntKind) (x : IE) : (mkConv k pc x).den ρ = k.wrap (x.den ρ) := by
  unfold mkConv
  split
  · rw [litK_den]; rfl
  · rw [wrapK_den hρ hp]
theorem mkBin_den (op : BinOp) (k : IntKind) (x y : IE) : (mkBin op k x y).den ρ = binI op k (x.den ρ) (y.den ρ) := by
  unfold mkBin
  split
  · rw [fint_eq]; rfl
  · rfl
theorem hasB_den {pc : List BE} (hp : Holds ρ pc) (c : BE) (r : Bool) (h : hasB c pc = some r) : c.den ρ = r := by
  induction pc with
  | nil => simp [hasB] at h
  | cons p pc ih =>
    simp only [hasB] at h
    split at h
    · rename_i hb
      have := BE.beq_eq _ _ hb
      subst this
      cases h
      exact hp.head
    · split at h
      · split at h
        · rename_i hb
          have := BE.beq_eq _ _ hb
          subst this
          cases h
          have := hp.head
          simpa [BE.den] using this
        · exact ih hp.tail h
      · exact ih hp.tail h
theorem oorelse_some {a b : Option Bool} {r : Bool} (h : oorelse a b = some r) : a = some r ∨ b = some r := by
  cases a <;> simp [oorelse] at h
  · exact .inr h
  · exact .inl (by rw [h])
theorem leR_den {m n : Int} {x y : Option Int × Option Int} (hx : Within m x) (hy : Within n y) (r : Bool) (h : leR x y = some r) : decide (m ≤ n) = r := by
  obtain ⟨a, b⟩ := x
  obtain ⟨c, d⟩ := y
  obtain ⟨x1, x2⟩ := hx
  obtain ⟨y1, y2⟩ := hy
  simp only [leR] at h
  split at h
  · cases h
    rename_i hb
    cases b <;> cases c <;> simp at hb
    rw [ileb_iff] at hb
    have := x2 _ rfl
    have := y1 _ rfl
    simp; omega
  · split at h
    · cases h
      rename_i hb
      cases d <;> cases a <;> simp at hb
      rw [ileb_false] at hb
      have := x1 _ rfl
      have := y2 _ rfl
      simp; omega
    · cases h
theorem eqR_den {m n : Int} {x y : Option Int × Option Int} (hx : Within m x) (hy : Within n y) (r : Bool) (h : eqR x y = some r) : decide (m = n) = r := by
  obtain ⟨a, b⟩ := x
  obtain ⟨c, d⟩ := y
  obtain ⟨x1, x2⟩ := hx
  obtain ⟨y1, y2⟩ := hy
  cases a <;> cases b <;> cases c <;> cases d <;> simp [eqR] at h
  have := x1 _ rfl
  have := x2 _ rfl
  have := y1 _ rfl
  have := y2 _ rfl
  split at h
  · rename_i h1; rw [ileb_iff] at h1
    split at h
    · rename_i h2; rw [ileb_iff] at h2
      split at h
      · rename_i h3; rw [ileb_iff] at h3
        split at h
        · rename_i h4; rw [ileb_iff] at h4
          cases h; simp; omega
        · cases h
      · cases h
    · rename_i h2; cases h; simp [ileb_iff] at h2 ⊢; omega
  · rename_i h2; cases h; simp [ileb_iff] at h2 ⊢; omega
theorem leB_den {pc : List BE} (hp : Holds ρ pc) (x y : IE) (r : Bool) (h : leB pc x y = some r) : decide (x.den ρ ≤ y.den ρ) = r := by
  rcases oorelse_some h with h | h
  · exact hasB_den hp _ _ h
  · split at h
    · rename_i h2
      cases h
      have := hasB_den hp _ _ h2
      simp [BE.den] at this ⊢; omega
    · cases h
theorem eqB_den {pc : List BE} (hp : Holds ρ pc) (x y : IE) (r : Bool) (h : eqB pc x y = some r) : decide (x.den ρ = y.den ρ) = r := by
  rcases oorelse_some h with h | h
  · exact hasB_den hp _ _ h
  · have := hasB_den hp _ _ h
    simp only [BE.den] at this
    rw [← this]
    simp [eq_comm]
theorem leE_den {pc : List BE} (hp : Holds ρ pc) (x y : IE) (r : Bool) (h : leE pc x y = some r) : decide (x.den ρ ≤ y.den ρ) = r := by
  unfold leE at h
  split at h
  · rename_i h1
    cases h
    have := eqB_den hp _ _ _ h1
    simp at this ⊢; omega
  · rename_i h1
    split at h
    · rename_i h2
      cases h
      have := eqB_den hp _ _ _ h1
      have := leB_den hp _ _ _ h2
      simp at *; omega
    · cases h
  · cases h
theorem eqL_den {pc : List BE} (hp : Holds ρ pc) (x y : IE) (r : Bool) (h : eqL pc x y = some r) : decide (x.den ρ = y.den ρ) = r := by
  unfold eqL at h
  split at h
  · rename_i h1
    split at h
    · rename_i h2
      cases h
      have a1 := leB_den hp _ _ _ h1
      have a2 := leB_den hp _ _ _ h2
      rw [← a2]
      simp at a1 ⊢; omega
    · cases h
  · rename_i h1
    cases h
    have := leB_den hp _ _ _ h1
    simp at *; omega
  · split at h
    · rename_i h2
      cases h
      have := leB_den hp _ _ _ h2
      simp at *; omega
    · cases h
theorem dec_den (hρ : ρ.Ok) {pc : List BE} (hp : Holds ρ pc) : ∀ (c : BE) (r : Bool), dec pc c = some r → c.den ρ = r
  | .lit b, r, h => by simp [dec] at h; simp [BE.den, h]
  | .var n, r, h => hasB_den hp _ _ h
  | .cel l i j, r, h => hasB_den hp _ _ h
  | .leq a b, r, h => by
    simp only [dec] at h
    split at h
    · rename_i hb
      cases h
      rw [LE.beq_eq _ _ hb]; simp [BE.den, eqV]
    · exact hasB_den hp _ _ h
  | .rnil r', r, h => hasB_den hp _ _ h
  | .fn n a, r, h => hasB_den hp _ _ h
  | .le x y, r, h => by
    simp only [dec] at h
    split at h
    · rename_i hb
      cases h
      rw [IE.beq_eq _ _ hb]; simp [BE.den]
    · rcases oorelse_some h with h | h
      · exact leR_den (rng_in hρ hp x) (rng_in hρ hp y) r h
      · rcases oorelse_some h with h | h
        · exact leB_den hp _ _ _ h
        · rcases oorelse_some h with h | h
          · exact leE_den hp _ _ _ h
          · rw [BE.den]; exact leF_den hρ hp _ _ _ h
  | .eq x y, r, h => by
    simp only [dec] at h
    split at h
    · rename_i hb
      cases h
      rw [IE.beq_eq _ _ hb]; simp [BE.den]
    · rcases oorelse_some h with h | h
      · exact eqR_den (rng_in hρ hp x) (rng_in hρ hp y) r h
      · rcases oorelse_some h with h | h
        · exact eqB_den hp _ _ _ h
        · rcases oorelse_some h with h | h
          · exact eqL_den hp _ _ _ h
          · rw [BE.den]; exact eqF_den hρ hp _ _ _ h
  | .not x, r, h => by
    simp only [dec] at h
    split at h
    · rename_i b hb
      cases h
      rw [BE.den, dec_den hρ hp x _ hb]
    · cases h
  | .and x y, r, h => by
    simp only [dec] at h
    split at h
    · rename_i hb
      cases h
      rw [BE.den, dec_den hρ hp x _ hb]; rfl
    · rename_i hb
      rw [BE.den, dec_den hρ hp x _ hb, dec_den hρ hp y _ h]; rfl
    · split at h
      · rename_i hb
        cases h
        rw [BE.den, dec_den hρ hp y _ hb]; simp
      · cases h
  | .iff x y, r, h => by
    simp only [dec] at h
    split at h
    · rename_i hb hc
      cases h
      rw [BE.den, dec_den hρ hp x _ hb, dec_den hρ hp y _ hc]
    · cases h
theorem mkNot_den (c : BE) : (mkNot c).den ρ = !c.den ρ := by cases c <;> simp [mkNot, BE.den]
theorem mkEq_den (x y : IE) : (mkEq x y).den ρ = decide (x.den ρ = y.den ρ) := by
  unfold mkEq
  split
  · rw [Bool.eq_iff_iff, decide_eq_true_iff]; exact ieqb_iff _ _
  · rw [Bool.eq_iff_iff, decide_eq_true_iff]
    show decide (_ = _) = true ↔ _
    rw [decide_eq_true_iff]; exact eq_comm
  · rfl
theorem mkLe_den (x y : IE) : (mkLe x y).den ρ = decide (x.den ρ ≤ y.den ρ) := by
  unfold mkLe
  split
  · rw [Bool.eq_iff_iff, decide_eq_true_iff]; exact ileb_iff _ _
  · rfl
theorem mkIff_den (x y : BE) : (mkIff x y).den ρ = (x.den ρ == y.den ρ) := by
  unfold mkIff
  split <;> simp [BE.den, mkNot_den]
theorem mkAnd_den (x y : BE) : (mkAnd x y).den ρ = (x.den ρ && y.den ρ) := by
  unfold mkAnd
  split <;> simp [BE.den]
end
end Go.Proofs.Ytjgkaimgocnkmab.Sx
