/- A reckoner of Go's small steps over letters: what its words mean. No condition. -/
import Derived.Test.YthenenacmiiphaaSx3
import Derived.Laws.StructEq
import Derived.Laws.CopyRow
import Derived.Laws.AppendOwn
import Derived.Deep.MidRow
set_option linter.unusedVariables false
set_option linter.unusedSimpArgs false
namespace Go.Proofs.Ythenenacmiiphaa.Sx
open Go

section lists
variable {α : Type}
theorem nth_eq (l : List α) (n : Nat) : nth l n = l[n]? := by
  induction l generalizing n with
  | nil => simp [nth]
  | cons x l ih =>
    cases n with
    | zero => rfl
    | succ n => have := ih n; simp only [nth] at this ⊢; simpa using this
theorem put_eq (l : List α) (n : Nat) (v : α) : put l n v = l.set n v := by
  induction l generalizing n with
  | nil => simp [put]
  | cons x l ih =>
    cases n with
    | zero => rfl
    | succ n => have := ih n; simp only [put] at this ⊢; simpa using this
theorem lk_nil (n : Nat) : lk ([] : List (Nat × α)) n = none := rfl
theorem lk_cons (m : Nat) (o : α) (l : List (Nat × α)) (n : Nat) : lk ((m, o) :: l) n = if m = n then some o else lk l n := by
 show Bool.rec (motive := fun _ => Option α) _ _ (Nat.beq m n) = _
 by_cases h : m = n
 ·subst h; simp
 ·have : Nat.beq m n = false := by cases hb : Nat.beq m n <;> simp_all
  rw [this, if_neg h]; rfl
theorem up_nil (n : Nat) (v : α) : up ([] : List (Nat × α)) n v = [] := rfl
theorem up_cons (m : Nat) (o : α) (l : List (Nat × α)) (n : Nat) (v : α) : up ((m, o) :: l) n v = if m = n then (n, v) :: l else (m, o) :: up l n v := by
 show Bool.rec (motive := fun _ => List (Nat × α)) _ _ (Nat.beq m n) = _
 by_cases h : m = n
 ·subst h; simp
 ·have : Nat.beq m n = false := by cases hb : Nat.beq m n <;> simp_all
  rw [this, if_neg h]; rfl
theorem lk_up (l : List (Nat × α)) (n m : Nat) (v : α) : lk (up l n v) m = if n = m then (lk l n).map (fun _ => v) else lk l m := by
  induction l with
  | nil => simp [up_nil, lk_nil]
  | cons p l ih =>
    obtain ⟨k, o⟩ := p
    rw [up_cons]
    by_cases h : k = n
    · subst h
      simp only [if_true, lk_cons]
      split <;> simp_all
    · rw [if_neg h, lk_cons, lk_cons, lk_cons, ih, if_neg h]
      by_cases h2 : k = m
      · subst h2
        simp [Ne.symm h]
      · simp [h2]
theorem fnat_eq {β : Type} (n : Nat) (k : Nat → β) : fnat n k = k n := by cases n <;> rfl
theorem fint_eq {β : Type} (n : Int) (k : Int → β) : fint n k = k n := by cases n <;> simp [fint, fnat_eq]
theorem fL_eq {β : Type} (l : List α) (k : List α → β) : fL l k = k l := by
  induction l generalizing k with
  | nil => rfl
  | cons x l ih => simp [fL, ih]
end lists
theorem IE.ind {M : IE → Prop} (lit : ∀ n, M (.lit n)) (var : ∀ k n, M (.var k n)) (add : ∀ x y, M x → M y → M (.add x y)) (sub : ∀ x y, M x → M y → M (.sub x y)) (mul : ∀ x y, M x → M y → M (.mul x y)) (wrap : ∀ k x, M x → M (.wrap k x))
  (bin : ∀ o k x y, M x → M y → M (.bin o k x y)) (cel : ∀ k l i j, M i → M (.cel k l i j)) (len : ∀ l, M (.len l)) (rcap : ∀ r, M (.rcap r)) (fn : ∀ k n a, M (.fn k n a)) (ite : ∀ c x y, M x → M y → M (.ite c x y)) : ∀ e, M e
 | .lit n => lit n
 | .var k n => var k n
 | .add x y => add x y (IE.ind lit var add sub mul wrap bin cel len rcap fn ite x) (IE.ind lit var add sub mul wrap bin cel len rcap fn ite y)
 | .sub x y => sub x y (IE.ind lit var add sub mul wrap bin cel len rcap fn ite x) (IE.ind lit var add sub mul wrap bin cel len rcap fn ite y)
 | .mul x y => mul x y (IE.ind lit var add sub mul wrap bin cel len rcap fn ite x) (IE.ind lit var add sub mul wrap bin cel len rcap fn ite y)
 | .wrap k x => wrap k x (IE.ind lit var add sub mul wrap bin cel len rcap fn ite x)
 | .bin o k x y => bin o k x y (IE.ind lit var add sub mul wrap bin cel len rcap fn ite x) (IE.ind lit var add sub mul wrap bin cel len rcap fn ite y)
 | .cel k l i j => cel k l i j (IE.ind lit var add sub mul wrap bin cel len rcap fn ite i)
 | .len l => len l
 | .rcap r => rcap r
 | .fn k n a => fn k n a
 | .ite c x y => ite c x y (IE.ind lit var add sub mul wrap bin cel len rcap fn ite x) (IE.ind lit var add sub mul wrap bin cel len rcap fn ite y)
theorem BE.ind {M : BE → Prop} (lit : ∀ n, M (.lit n)) (var : ∀ n, M (.var n)) (le : ∀ x y, M (.le x y)) (eq : ∀ x y, M (.eq x y)) (not : ∀ x, M x → M (.not x)) (and : ∀ x y, M x → M y → M (.and x y)) (iff : ∀ x y, M x → M y → M (.iff x y))
  (cel : ∀ l i j, M (.cel l i j)) (leq : ∀ a b, M (.leq a b)) (rnil : ∀ r, M (.rnil r)) (fn : ∀ n a, M (.fn n a)) : ∀ e, M e
 | .lit n => lit n
 | .var n => var n
 | .le x y => le x y
 | .eq x y => eq x y
 | .not x => not x (BE.ind lit var le eq not and iff cel leq rnil fn x)
 | .and x y => and x y (BE.ind lit var le eq not and iff cel leq rnil fn x) (BE.ind lit var le eq not and iff cel leq rnil fn y)
 | .iff x y => iff x y (BE.ind lit var le eq not and iff cel leq rnil fn x) (BE.ind lit var le eq not and iff cel leq rnil fn y)
 | .cel l i j => cel l i j
 | .leq a b => leq a b
 | .rnil r => rnil r
 | .fn n a => fn n a
mutual
theorem fIE_eq {β : Type} : ∀ (e : IE) (k : IE → β), fIE e k = k e
 | .lit n, k => by simp only [fIE, fint_eq]
 | .var w n, k => by simp only [fIE]
 | .add x y, k => by simp only [fIE, fIE_eq x, fIE_eq y]
 | .sub x y, k => by simp only [fIE, fIE_eq x, fIE_eq y]
 | .mul x y, k => by simp only [fIE, fIE_eq x, fIE_eq y]
 | .wrap w x, k => by simp only [fIE, fIE_eq x]
 | .bin op w x y, k => by simp only [fIE, fIE_eq x, fIE_eq y]
 | .cel w l i j, k => by simp only [fIE, fLE_eq l, fIE_eq i]
 | .len l, k => by simp only [fIE, fLE_eq l]
 | .rcap r, k => by simp only [fIE]
 | .fn w n a, k => by simp only [fIE, fAL_eq a]
 | .ite c x y, k => by simp only [fIE, fBE_eq c, fIE_eq x, fIE_eq y]
theorem fBE_eq {β : Type} : ∀ (e : BE) (k : BE → β), fBE e k = k e
 | .lit b, k => by cases b <;> simp only [fBE]
 | .var n, k => by simp only [fBE]
 | .le x y, k => by simp only [fBE, fIE_eq x, fIE_eq y]
 | .eq x y, k => by simp only [fBE, fIE_eq x, fIE_eq y]
 | .not x, k => by simp only [fBE, fBE_eq x]
 | .and x y, k => by simp only [fBE, fBE_eq x, fBE_eq y]
 | .iff x y, k => by simp only [fBE, fBE_eq x, fBE_eq y]
 | .cel l i j, k => by simp only [fBE, fLE_eq l, fIE_eq i]
 | .leq x y, k => by simp only [fBE, fLE_eq x, fLE_eq y]
 | .rnil r, k => by simp only [fBE]
 | .fn n a, k => by simp only [fBE, fAL_eq a]
theorem fLE_eq {β : Type} : ∀ (e : LE) (k : LE → β), fLE e k = k e
 | .nil, k => by simp only [fLE]
 | .var n, k => by simp only [fLE]
 | .rom r, k => by simp only [fLE]
 | .cat x y, k => by simp only [fLE, fLE_eq x, fLE_eq y]
 | .one c, k => by simp only [fLE, fAL_eq c]
 | .set x i c, k => by simp only [fLE, fLE_eq x, fIE_eq i, fAL_eq c]
 | .take x i, k => by simp only [fLE, fLE_eq x, fIE_eq i]
 | .drop x i, k => by simp only [fLE, fLE_eq x, fIE_eq i]
 | .rep c n, k => by simp only [fLE, fAL_eq c, fIE_eq n]
 | .str x i j, k => by simp only [fLE, fLE_eq x, fIE_eq i]
 | .fn n a, k => by simp only [fLE, fAL_eq a]
theorem fAL_eq {β : Type} : ∀ (e : AL) (k : AL → β), fAL e k = k e
 | .nil, k => by simp only [fAL]
 | .int w e r, k => by simp only [fAL, fIE_eq e, fAL_eq r]
 | .bool b r, k => by simp only [fAL, fBE_eq b, fAL_eq r]
 | .lst l r, k => by simp only [fAL, fLE_eq l, fAL_eq r]
 | .cel l i j r, k => by simp only [fAL, fLE_eq l, fIE_eq i, fAL_eq r]
end
theorem fSV_eq {β : Type} (v : SV) (k : SV → β) : fSV v k = k v := by
 cases v <;> simp [fSV, fIE_eq, fBE_eq, fnat_eq]
theorem get2_eq (t : Slots) (i : Nat) : get2 t i = (t[i / 8]?).bind (·[i % 8]?) := by
 unfold get2
 rw [nth_eq]
 show (match t[i / 8]? with | some c => nth c (i % 8) | none => none) = _
 cases t[i / 8]? <;> simp [nth_eq]
theorem get2_put2 (t : Slots) (i j : Nat) (v : SV) : get2 (put2 t i v) j = if i = j then (get2 t j).map (fun _ => v) else get2 t j := by
 unfold put2
 rw [nth_eq]
 show get2 (match t[i / 8]? with | some c => put t (i / 8) (put c (i % 8) v) | none => t) j = _
 cases hc : t[i / 8]? with
 | none =>
  simp only []
  split
  ·rename_i h; subst h
   simp [get2_eq, hc]
  ·rfl
 | some c =>
  simp only [put_eq, get2_eq]
  have hlt : i / 8 < t.length := (List.getElem?_eq_some_iff.1 hc).1
  by_cases h8 : i / 8 = j / 8
  ·rw [← h8, List.getElem?_set_self hlt, hc]
   simp only [Option.bind_some]
   by_cases hm : i % 8 = j % 8
   ·have : i = j := by omega
    subst this
    rw [if_pos rfl, List.getElem?_set]
    simp only [if_true]
    split
    ·rename_i h; rw [List.getElem?_eq_getElem h]; rfl
    ·rename_i h; rw [List.getElem?_eq_none (by omega)]; rfl
   ·have : i ≠ j := by rintro rfl; exact hm rfl
    rw [if_neg this, List.getElem?_set_ne hm]
  ·have : i ≠ j := by rintro rfl; exact h8 rfl
   rw [if_neg this, List.getElem?_set_ne h8]
theorem get2_one (l : List SV) (h : l.length ≤ 8) (i : Nat) : get2 [l] i = l[i]? := by
 rw [get2_eq]
 by_cases h8 : i < 8
 ·rw [show i / 8 = 0 by omega, show i % 8 = i by omega]; rfl
 ·have h1 : ([l] : List (List SV))[i / 8]? = none := List.getElem?_eq_none (by simp; omega)
  rw [h1, List.getElem?_eq_none (by omega)]; rfl
theorem get2_chunk (n : Nat) : ∀ (l : List SV), l.length ≤ 8 * n → ∀ i, get2 (chunk n l) i = l[i]? := by
  induction n with
  | zero => intro l h i; have : l = [] := by cases l <;> simp_all
            subst this; simp [chunk, get2_eq]
  | succ n ih =>
    intro l h i
    match l, h with
    | [], h => simp [chunk, get2_eq]
    | a :: b :: c :: d :: e :: f :: g :: h :: l, hl =>
      simp only [chunk]
      have := ih l (by simp at hl; omega) (i - 8)
      by_cases h8 : i < 8
      · have : i / 8 = 0 := by omega
        rw [get2_eq, this]
        simp only [List.getElem?_cons_zero, Option.bind_some]
        have : i % 8 = i := by omega
        rw [this]
        match i, h8 with
        | 0, _ => rfl | 1, _ => rfl | 2, _ => rfl | 3, _ => rfl | 4, _ => rfl | 5, _ => rfl | 6, _ => rfl | 7, _ => rfl
      · obtain ⟨m, rfl⟩ : ∃ m, i = m + 8 := ⟨i - 8, by omega⟩
        simp only [Nat.add_sub_cancel] at this
        rw [get2_eq] at this ⊢
        rw [show (m + 8) / 8 = m / 8 + 1 by omega, show (m + 8) % 8 = m % 8 by omega]
        simp only [List.getElem?_cons_succ]
        exact this
    | [a], hl => exact get2_one _ (by simp) i
    | [a, b], hl => exact get2_one _ (by simp) i
    | [a, b, c], hl => exact get2_one _ (by simp) i
    | [a, b, c, d], hl => exact get2_one _ (by simp) i
    | [a, b, c, d, e], hl => exact get2_one _ (by simp) i
    | [a, b, c, d, e, f], hl => exact get2_one _ (by simp) i
    | [a, b, c, d, e, f, g], hl => exact get2_one _ (by simp) i
theorem ileb_iff (a b : Int) : ileb a b = true ↔ a ≤ b := by
 cases a <;> cases b <;> simp [ileb] <;> omega
theorem ileb_false (a b : Int) : ileb a b = false ↔ b < a := by
 rw [← Bool.not_eq_true, ileb_iff]; omega
theorem ieqb_iff (a b : Int) : ieqb a b = true ↔ a = b := by
 cases a <;> cases b <;> simp [ieqb] <;> omega
theorem keq_iff (a b : IntKind) : keq a b = true ↔ a = b := by
 cases a <;> cases b <;> simp [keq, kno]
theorem kmin_eq (k : IntKind) : kmin k = k.min := by cases k <;> simp [kmin, IntKind.min, IntKind.signed, IntKind.bits]
theorem kmax_eq (k : IntKind) : kmax k = k.max := by cases k <;> simp [kmax, IntKind.max, IntKind.signed, IntKind.bits]
theorem wrap_in (k : IntKind) (n : Int) (h1 : kmin k ≤ n) (h2 : n ≤ kmax k) : k.wrap n = n := by
 cases k <;> simp [kmin, kmax, IntKind.wrap, IntKind.signed, IntKind.bits] at * <;> omega
theorem wrap_lo (k : IntKind) (n : Int) : kmin k ≤ k.wrap n := by
 cases k <;> simp [kmin, kmax, IntKind.wrap, IntKind.signed, IntKind.bits] at * <;> omega
theorem wrap_hi (k : IntKind) (n : Int) : k.wrap n ≤ kmax k := by
 cases k <;> simp [kmin, kmax, IntKind.wrap, IntKind.signed, IntKind.bits] at * <;> omega
theorem bop_eq (o p : BinOp) (h : bopno o = bopno p) : o = p := by
 cases o <;> cases p <;> first | rfl | (simp [bopno] at h)
mutual
theorem IE.beq_eq : ∀ (a b : IE), a.beq b = true → a = b
 | .lit a, b, h => by cases b <;> simp [IE.beq, ieqb_iff] at h; rw [h]
 | .var k n, b, h => by cases b <;> simp [IE.beq, keq_iff] at h; rw [h.1, h.2]
 | .add x y, b, h => by cases b <;> simp [IE.beq] at h; rw [IE.beq_eq x _ h.1, IE.beq_eq y _ h.2]
 | .sub x y, b, h => by cases b <;> simp [IE.beq] at h; rw [IE.beq_eq x _ h.1, IE.beq_eq y _ h.2]
 | .mul x y, b, h => by cases b <;> simp [IE.beq] at h; rw [IE.beq_eq x _ h.1, IE.beq_eq y _ h.2]
 | .wrap k x, b, h => by cases b <;> simp [IE.beq, keq_iff] at h; rw [h.1, IE.beq_eq x _ h.2]
 | .bin op k x y, b, h => by
  cases b <;> simp [IE.beq, keq_iff] at h
  rw [bop_eq _ _ h.1, h.2.1, IE.beq_eq x _ h.2.2.1, IE.beq_eq y _ h.2.2.2]
 | .cel k l i j, b, h => by cases b <;> simp [IE.beq, keq_iff] at h; rw [h.1, h.2.1, IE.beq_eq i _ h.2.2.1, LE.beq_eq l _ h.2.2.2]
 | .len l, b, h => by cases b <;> simp [IE.beq] at h; rw [LE.beq_eq l _ h]
 | .rcap r, b, h => by cases b <;> simp [IE.beq] at h; rw [h]
 | .fn k n a, b, h => by cases b <;> simp [IE.beq, keq_iff] at h; rw [h.1, h.2.1, AL.beq_eq a _ h.2.2]
 | .ite c x y, b, h => by cases b <;> simp [IE.beq] at h; rw [BE.beq_eq c _ h.1, IE.beq_eq x _ h.2.1, IE.beq_eq y _ h.2.2]
theorem BE.beq_eq : ∀ (a b : BE), a.beq b = true → a = b
 | .lit a, b, h => by cases b <;> simp [BE.beq] at h; rw [h]
 | .var n, b, h => by cases b <;> simp [BE.beq] at h; rw [h]
 | .le x y, b, h => by cases b <;> simp [BE.beq] at h; rw [IE.beq_eq x _ h.1, IE.beq_eq y _ h.2]
 | .eq x y, b, h => by cases b <;> simp [BE.beq] at h; rw [IE.beq_eq x _ h.1, IE.beq_eq y _ h.2]
 | .not x, b, h => by cases b <;> simp [BE.beq] at h; rw [BE.beq_eq x _ h]
 | .and x y, b, h => by cases b <;> simp [BE.beq] at h; rw [BE.beq_eq x _ h.1, BE.beq_eq y _ h.2]
 | .iff x y, b, h => by cases b <;> simp [BE.beq] at h; rw [BE.beq_eq x _ h.1, BE.beq_eq y _ h.2]
 | .cel l i j, b, h => by cases b <;> simp [BE.beq] at h; rw [h.1, IE.beq_eq i _ h.2.1, LE.beq_eq l _ h.2.2]
 | .leq x y, b, h => by cases b <;> simp [BE.beq] at h; rw [LE.beq_eq x _ h.1, LE.beq_eq y _ h.2]
 | .rnil r, b, h => by cases b <;> simp [BE.beq] at h; rw [h]
 | .fn n a, b, h => by cases b <;> simp [BE.beq] at h; rw [h.1, AL.beq_eq a _ h.2]
theorem LE.beq_eq : ∀ (a b : LE), a.beq b = true → a = b
 | .nil, b, h => by cases b <;> simp [LE.beq] at h; rfl
 | .var n, b, h => by cases b <;> simp [LE.beq] at h; rw [h]
 | .rom n, b, h => by cases b <;> simp [LE.beq] at h; rw [h]
 | .cat x y, b, h => by cases b <;> simp [LE.beq] at h; rw [LE.beq_eq x _ h.1, LE.beq_eq y _ h.2]
 | .one c, b, h => by cases b <;> simp [LE.beq] at h; rw [AL.beq_eq c _ h]
 | .set x i c, b, h => by cases b <;> simp [LE.beq] at h; rw [IE.beq_eq i _ h.1, AL.beq_eq c _ h.2.1, LE.beq_eq x _ h.2.2]
 | .take x i, b, h => by cases b <;> simp [LE.beq] at h; rw [IE.beq_eq i _ h.1, LE.beq_eq x _ h.2]
 | .drop x i, b, h => by cases b <;> simp [LE.beq] at h; rw [IE.beq_eq i _ h.1, LE.beq_eq x _ h.2]
 | .rep c n, b, h => by cases b <;> simp [LE.beq] at h; rw [IE.beq_eq n _ h.1, AL.beq_eq c _ h.2]
 | .str l i j, b, h => by cases b <;> simp [LE.beq] at h; rw [h.1, IE.beq_eq i _ h.2.1, LE.beq_eq l _ h.2.2]
 | .fn n a, b, h => by cases b <;> simp [LE.beq] at h; rw [h.1, AL.beq_eq a _ h.2]
theorem AL.beq_eq : ∀ (a b : AL), a.beq b = true → a = b
 | .nil, b, h => by cases b <;> simp [AL.beq] at h; rfl
 | .int k e r, b, h => by cases b <;> simp [AL.beq, keq_iff] at h; rw [h.1, IE.beq_eq e _ h.2.1, AL.beq_eq r _ h.2.2]
 | .bool e r, b, h => by cases b <;> simp [AL.beq] at h; rw [BE.beq_eq e _ h.1, AL.beq_eq r _ h.2]
 | .lst e r, b, h => by cases b <;> simp [AL.beq] at h; rw [LE.beq_eq e _ h.1, AL.beq_eq r _ h.2]
 | .cel l i j r, b, h => by cases b <;> simp [AL.beq] at h; rw [h.1, IE.beq_eq i _ h.2.1, LE.beq_eq l _ h.2.2.1, AL.beq_eq r _ h.2.2.2]
end
def conf1 : CK → Value → Bool
 | .int k, .int j n => if keq k j then (if ileb (kmin k) n then ileb n (kmax k) else false) else false
 | .bool, .bool _ => true
 | .str, .string _ => true
 | .any, v => v.oneCell'
 | _, _ => false
def conf : List CK → List Value → Bool
 | [], [] => true
 | k :: ks, v :: vs => if conf1 k v then conf ks vs else false
 | _, _ => false
def Typed (ks : List CK) (l : LV) : Prop := ∀ e ∈ l, conf ks e = true
structure Rho.Ok (ρ : Rho) : Prop where
 lo : ∀ k n, kmin k ≤ ρ.i k n
 hi : ∀ k n, ρ.i k n ≤ kmax k
 ll : ∀ n, ((ρ.l n).length : Int) ≤ 9223372036854775807
 lodd : ∀ n, oddN n = true → Typed byteK (ρ.l n)
 rl : ∀ r, ((ρ.z.rl r).length : Int) ≤ 9223372036854775807
 fodd : ∀ n a, oddN n = true → Typed byteK (ρ.z.F.l n a)
def Holds (ρ : Rho) (pc : List BE) : Prop := ∀ p ∈ pc, p.den ρ = true
def Within (n : Int) (r : Option Int × Option Int) : Prop := (∀ a, r.1 = some a → a ≤ n) ∧ (∀ b, r.2 = some b → n ≤ b)
section
variable {ρ : Rho}
theorem den_le_t {x y : IE} : (BE.le x y).den ρ = true ↔ x.den ρ ≤ y.den ρ := by unfold BE.den; exact decide_eq_true_iff
theorem den_le_f {x y : IE} : (BE.le x y).den ρ = false ↔ ¬ x.den ρ ≤ y.den ρ := by unfold BE.den; exact decide_eq_false_iff_not
theorem den_eq_t {x y : IE} : (BE.eq x y).den ρ = true ↔ x.den ρ = y.den ρ := by unfold BE.den; exact decide_eq_true_iff
theorem den_eq_f {x y : IE} : (BE.eq x y).den ρ = false ↔ ¬ x.den ρ = y.den ρ := by unfold BE.den; exact decide_eq_false_iff_not
theorem den_not {x : BE} : (BE.not x).den ρ = !x.den ρ := rfl
theorem den_lit {n : Int} : (IE.lit n).den ρ = n := rfl
theorem Holds.tail {p : BE} {pc : List BE} (h : Holds ρ (p :: pc)) : Holds ρ pc := fun q hq => h q (List.mem_cons_of_mem _ hq)
theorem Holds.head {p : BE} {pc : List BE} (h : Holds ρ (p :: pc)) : p.den ρ = true := h p (List.mem_cons_self ..)
theorem Holds.cons {p : BE} {pc : List BE} (h : Holds ρ pc) (hp : p.den ρ = true) : Holds ρ (p :: pc) := by
 intro q hq
 rcases List.mem_cons.1 hq with rfl | hq
 ·exact hp
 ·exact h q hq
theorem omax_le {o : Option Int} {b n : Int} (ho : ∀ a, o = some a → a ≤ n) (hb : b ≤ n) : ∀ a, omax o b = some a → a ≤ n := by
 intro a ha
 cases o with
 | none => simp [omax] at ha; omega
 | some c =>
  simp only [omax] at ha
  have := ho c rfl
  split at ha <;> (cases ha; omega)
theorem omin_le {o : Option Int} {b n : Int} (ho : ∀ a, o = some a → n ≤ a) (hb : n ≤ b) : ∀ a, omin o b = some a → n ≤ a := by
 intro a ha
 cases o with
 | none => simp [omin] at ha; omega
 | some c =>
  simp only [omin] at ha
  have := ho c rfl
  split at ha <;> (cases ha; omega)
theorem omin_lo {x y a n : Int} (h : omin (some x) y = some a) (hx : x ≤ n) : a ≤ n := by
 simp only [omin] at h
 split at h <;> (cases h) <;> rename_i hb
 ·exact hx
 ·simp [ileb_iff] at hb; omega
theorem omin_lo' {x y a n : Int} (h : omin (some x) y = some a) (hx : y ≤ n) : a ≤ n := by
 simp only [omin] at h
 split at h <;> (cases h) <;> rename_i hb
 ·rw [ileb_iff] at hb; omega
 ·exact hx
theorem omax_hi {x y a n : Int} (h : omax (some x) y = some a) (hx : n ≤ x) : n ≤ a := by
 simp only [omax] at h
 split at h <;> (cases h) <;> rename_i hb
 ·rw [ileb_iff] at hb; omega
 ·exact hx
theorem omax_hi' {x y a n : Int} (h : omax (some x) y = some a) (hx : n ≤ y) : n ≤ a := by
 simp only [omax] at h
 split at h <;> (cases h) <;> rename_i hb
 ·exact hx
 ·simp [ileb_iff] at hb; omega
theorem clampK_lo (k : IntKind) (n : Int) : kmin k ≤ clampK k n := by
 unfold clampK
 split
 ·rename_i h; exact h.1
 ·cases k <;> decide
theorem clampK_hi (k : IntKind) (n : Int) : clampK k n ≤ kmax k := by
 unfold clampK
 split
 ·rename_i h; exact h.2
 ·cases k <;> decide
theorem low1_le {e : IE} {p : BE} {o : Option Int} (hp : p.den ρ = true) (ho : ∀ a, o = some a → a ≤ e.den ρ) : ∀ a, low1 e p o = some a → a ≤ e.den ρ := by
 unfold low1
 revert hp
 split <;> intro hp
 ·split
  ·rename_i h
   have := IE.beq_eq _ _ h
   subst this
   simp only [fint_eq]
   simp only [den_not, Bool.not_eq_true', den_le_t, den_le_f, den_eq_t, den_lit] at hp
   exact omax_le ho (by omega)
  ·exact ho
 ·split
  ·rename_i h
   have := IE.beq_eq _ _ h
   subst this
   simp only [den_not, Bool.not_eq_true', den_le_t, den_le_f, den_eq_t, den_lit] at hp
   exact omax_le ho (by omega)
  ·exact ho
 ·split
  ·rename_i h
   have := IE.beq_eq _ _ h
   subst this
   simp only [den_not, Bool.not_eq_true', den_le_t, den_le_f, den_eq_t, den_lit] at hp
   exact omax_le ho (by omega)
  ·exact ho
 ·exact ho
theorem high1_le {e : IE} {p : BE} {o : Option Int} (hp : p.den ρ = true) (ho : ∀ a, o = some a → e.den ρ ≤ a) : ∀ a, high1 e p o = some a → e.den ρ ≤ a := by
 unfold high1
 revert hp
 split <;> intro hp
 ·split
  ·rename_i h
   have := IE.beq_eq _ _ h
   subst this
   simp only [den_not, Bool.not_eq_true', den_le_t, den_le_f, den_eq_t, den_lit] at hp
   exact omin_le ho (by omega)
  ·exact ho
 ·split
  ·rename_i h
   have := IE.beq_eq _ _ h
   subst this
   simp only [fint_eq]
   simp only [den_not, Bool.not_eq_true', den_le_t, den_le_f, den_eq_t, den_lit] at hp
   exact omin_le ho (by omega)
  ·exact ho
 ·split
  ·rename_i h
   have := IE.beq_eq _ _ h
   subst this
   simp only [den_not, Bool.not_eq_true', den_le_t, den_le_f, den_eq_t, den_lit] at hp
   exact omin_le ho (by omega)
  ·exact ho
 ·exact ho
theorem lows_le {e : IE} {pc : List BE} {o : Option Int} (hp : Holds ρ pc) (ho : ∀ a, o = some a → a ≤ e.den ρ) : ∀ a, lows pc e o = some a → a ≤ e.den ρ := by
  unfold lows
  induction pc with
  | nil => exact ho
  | cons p pc ih => exact low1_le hp.head (ih hp.tail)
theorem highs_le {e : IE} {pc : List BE} {o : Option Int} (hp : Holds ρ pc) (ho : ∀ a, o = some a → e.den ρ ≤ a) : ∀ a, highs pc e o = some a → e.den ρ ≤ a := by
  unfold highs
  induction pc with
  | nil => exact ho
  | cons p pc ih => exact high1_le hp.head (ih hp.tail)
theorem nonneg_some {o : Option Int} (h : nonneg o = true) : ∃ a, o = some a ∧ 0 ≤ a := by
 cases o with
 | none => simp [nonneg] at h
 | some a => exact ⟨a, rfl, by simpa [nonneg, ileb_iff] using h⟩
theorem above0_some {o : Option Int} (h : above0 o = true) : ∃ a, o = some a ∧ 1 ≤ a := by
 cases o with
 | none => simp [above0] at h
 | some a => exact ⟨a, rfl, by simpa [above0, ileb_iff] using h⟩
theorem maskOk_lit {k : IntKind} {y : IE} (h : maskOk k y = true) : ∃ m, y = .lit m ∧ 0 ≤ m ∧ m ≤ kmax k := by
 cases y <;> simp [maskOk, ileb_iff] at h
 exact ⟨_, rfl, h.1, h.2⟩
theorem and_mask (k : IntKind) (x m : Int) (h0 : 0 ≤ m) (h1 : m ≤ kmax k) : 0 ≤ binI .and k x m ∧ binI .and k x m ≤ m := by
 have hb : (BitVec.ofInt k.bits m).toNat = m.toNat := by
  rw [BitVec.toNat_ofInt]
  have : m % ((2 ^ k.bits : Nat) : Int) = m := Int.emod_eq_of_lt h0 (by cases k <;> simp [kmax, IntKind.bits] at * <;> omega)
  rw [this]
 have hle : ((BitVec.ofInt k.bits x &&& BitVec.ofInt k.bits m).toNat) ≤ m.toNat := by
  rw [BitVec.toNat_and, hb]; exact Nat.and_le_right
 have hw : binI .and k x m = ((BitVec.ofInt k.bits x &&& BitVec.ofInt k.bits m).toNat : Int) := by
  show k.wrap _ = _
  exact wrap_in k _ (by cases k <;> simp [kmin] <;> omega) (by omega)
 rw [hw]; omega
theorem fdiv_bounds (x : Int) (n : Nat) (hx : 0 ≤ x) : 0 ≤ x.fdiv (2 ^ n) ∧ x.fdiv (2 ^ n) ≤ x := by
 have hp : (0 : Int) < 2 ^ n := Int.pow_pos (by decide)
 rw [Int.fdiv_eq_ediv_of_nonneg _ (by omega)]
 exact ⟨Int.ediv_nonneg hx (by omega), Int.ediv_le_self _ hx⟩
theorem tdiv_bounds (x y : Int) (hx : 0 ≤ x) (hy : 0 ≤ y) : 0 ≤ x.tdiv y ∧ x.tdiv y ≤ x := by
 rw [Int.tdiv_eq_ediv_of_nonneg hx]
 exact ⟨Int.ediv_nonneg hx hy, Int.ediv_le_self _ hx⟩
theorem tmod_bounds (x y : Int) (hx : 0 ≤ x) : 0 ≤ x.tmod y ∧ x.tmod y ≤ x ∧ (1 ≤ y → x.tmod y ≤ y - 1) := by
 refine ⟨Int.tmod_nonneg _ hx, ?_, ?_⟩
 ·have h1 := Int.tmod_add_mul_tdiv x y
  rcases Int.lt_or_le y 0 with hy | hy
  ·have h2 : 0 ≤ y * x.tdiv y := by
    have : x.tdiv y ≤ 0 := Int.tdiv_nonpos_of_nonneg_of_nonpos hx (by omega)
    exact Int.mul_nonneg_of_nonpos_of_nonpos (by omega) this
   omega
  ·have := Int.mul_nonneg hy (tdiv_bounds x y hx hy).1
   omega
 ·intro hy
  have := Int.tmod_lt_of_pos x (show 0 < y by omega)
  omega
theorem binLo_le {op : BinOp} {k : IntKind} {x y : IE} {rx ry : Option Int × Option Int} (hx : Within (x.den ρ) rx) (hy : Within (y.den ρ) ry) : ∀ a, binLo op k y rx ry = some a → a ≤ binI op k (x.den ρ) (y.den ρ) := by
 intro a ha
 cases op <;> simp only [binLo] at ha <;> first
  | (cases ha; done)
  | (cases ha; exact wrap_lo _ _)
  | skip
 ·split at ha
  ·rename_i h1
   split at ha
   ·rename_i h2
    split at ha
    ·rename_i h3
     cases ha
     obtain ⟨p, e1, p0⟩ := nonneg_some h1
     obtain ⟨q, e2, q0⟩ := nonneg_some h2
     have hx0 := hx.1 _ e1
     have hy0 := hy.1 _ e2
     cases h4 : rx.2 with
     | none => simp [h4, upTo] at h3
     | some u =>
      simp [h4, upTo, ileb_iff] at h3
      have hxu := hx.2 _ h4
      obtain ⟨t1, t2⟩ := tdiv_bounds (x.den ρ) (y.den ρ) (by omega) (by omega)
      show 0 ≤ k.wrap _
      rw [wrap_in k _ (by cases k <;> simp [kmin] <;> omega) (by omega)]
      exact t1
    ·cases ha
   ·cases ha
  ·cases ha
 ·split at ha
  ·rename_i h1
   cases ha
   obtain ⟨p, e1, p0⟩ := nonneg_some h1
   exact (tmod_bounds _ _ (by have := hx.1 _ e1; omega)).1
  ·cases ha
 ·split at ha
  ·rename_i h1
   simp only [Option.some.injEq] at ha
   obtain ⟨m, hm, m0, m1⟩ := maskOk_lit h1
   have e : (IE.den ρ y) = m := by rw [hm]; rfl
   rw [e, ← ha]
   exact (and_mask k _ m m0 m1).1
  ·cases ha
 ·split at ha
  ·rename_i h1
   cases ha
   obtain ⟨p, e1, p0⟩ := nonneg_some h1
   exact (fdiv_bounds _ _ (by have := hx.1 _ e1; omega)).1
  ·cases ha
theorem binHi_le {op : BinOp} {k : IntKind} {x y : IE} {rx ry : Option Int × Option Int} (hx : Within (x.den ρ) rx) (hy : Within (y.den ρ) ry) : ∀ a, binHi op k y rx ry = some a → binI op k (x.den ρ) (y.den ρ) ≤ a := by
 intro a ha
 cases op <;> simp only [binHi] at ha <;> first
  | (cases ha; done)
  | (cases ha; exact wrap_hi _ _)
  | skip
 ·split at ha
  ·rename_i h1
   split at ha
   ·rename_i h2
    split at ha
    ·rename_i h3
     obtain ⟨p, e1, p0⟩ := nonneg_some h1
     obtain ⟨q, e2, q0⟩ := nonneg_some h2
     have hx0 := hx.1 _ e1
     have hy0 := hy.1 _ e2
     simp [ha, upTo, ileb_iff] at h3
     have hxu := hx.2 _ ha
     obtain ⟨t1, t2⟩ := tdiv_bounds (x.den ρ) (y.den ρ) (by omega) (by omega)
     show k.wrap _ ≤ a
     rw [wrap_in k _ (by cases k <;> simp [kmin] <;> omega) (by omega)]
     omega
    ·cases ha
   ·cases ha
  ·cases ha
 ·split at ha
  ·rename_i h1
   obtain ⟨p, e1, p0⟩ := nonneg_some h1
   obtain ⟨t1, t2, t3⟩ := tmod_bounds (x.den ρ) (y.den ρ) (by have := hx.1 _ e1; omega)
   show Int.tmod _ _ ≤ a
   split at ha
   ·rename_i h2
    obtain ⟨q, e2, q0⟩ := above0_some h2
    have hy0 := hy.1 _ e2
    split at ha
    ·rename_i b hb
     rw [fint_eq] at ha
     have hb' := hy.2 _ hb
     exact omin_le (fun c hc => Int.le_trans t2 (hx.2 _ hc)) (by have := t3 (by omega); omega) a ha
    ·exact Int.le_trans t2 (hx.2 _ ha)
   ·exact Int.le_trans t2 (hx.2 _ ha)
  ·cases ha
 ·split at ha
  ·rename_i h1
   obtain ⟨m, hm, m0, m1⟩ := maskOk_lit h1
   have e : (IE.den ρ y) = m := by rw [hm]; rfl
   rw [hm] at ha
   simp only [litO, Option.some.injEq] at ha
   rw [e, ← ha]
   exact (and_mask k _ m m0 m1).2
  ·cases ha
 ·split at ha
  ·rename_i h1
   obtain ⟨p, e1, p0⟩ := nonneg_some h1
   exact Int.le_trans (fdiv_bounds _ _ (by have := hx.1 _ e1; omega)).2 (hx.2 _ ha)
  ·cases ha
theorem rng_in (hρ : ρ.Ok) {pc : List BE} (hp : Holds ρ pc) : ∀ e : IE, Within (e.den ρ) (rng pc e)
 | .lit n => by simp [rng, Within, IE.den]
 | .var k n => ⟨lows_le hp (by rintro a ⟨⟩; exact hρ.lo k n), highs_le hp (by rintro a ⟨⟩; exact hρ.hi k n)⟩
 | .add x y => by
  have hx := rng_in hρ hp x
  have hy := rng_in hρ hp y
  refine ⟨lows_le hp ?_, highs_le hp ?_⟩
  ·intro a ha
   cases h1 : (rng pc x).1 <;> cases h2 : (rng pc y).1 <;> simp [oadd, h1, h2, fint_eq] at ha
   have := hx.1 _ h1
   have := hy.1 _ h2
   simp only [IE.den]; omega
  ·intro a ha
   cases h1 : (rng pc x).2 <;> cases h2 : (rng pc y).2 <;> simp [oadd, h1, h2, fint_eq] at ha
   have := hx.2 _ h1
   have := hy.2 _ h2
   simp only [IE.den]; omega
 | .sub x y => by
  have hx := rng_in hρ hp x
  have hy := rng_in hρ hp y
  refine ⟨lows_le hp ?_, highs_le hp ?_⟩
  ·intro a ha
   cases h1 : (rng pc x).1 <;> cases h2 : (rng pc y).2 <;> simp [osub, h1, h2, fint_eq] at ha
   have := hx.1 _ h1
   have := hy.2 _ h2
   simp only [IE.den]; omega
  ·intro a ha
   cases h1 : (rng pc x).2 <;> cases h2 : (rng pc y).1 <;> simp [osub, h1, h2, fint_eq] at ha
   have := hx.2 _ h1
   have := hy.1 _ h2
   simp only [IE.den]; omega
 | .mul x y => ⟨lows_le hp (by rintro a ⟨⟩), highs_le hp (by rintro a ⟨⟩)⟩
 | .wrap k x => ⟨lows_le hp (by rintro a ⟨⟩; exact wrap_lo _ _), highs_le hp (by rintro a ⟨⟩; exact wrap_hi _ _)⟩
 | .bin op k x y => ⟨lows_le hp (binLo_le (rng_in hρ hp x) (rng_in hρ hp y)), highs_le hp (binHi_le (rng_in hρ hp x) (rng_in hρ hp y))⟩
 | .cel k l i j => ⟨lows_le hp (by rintro a ⟨⟩; exact clampK_lo k _), highs_le hp (by rintro a ⟨⟩; exact clampK_hi k _)⟩
 | .fn k n a => ⟨lows_le hp (by rintro b ⟨⟩; exact clampK_lo k _), highs_le hp (by rintro b ⟨⟩; exact clampK_hi k _)⟩
 | .len l => ⟨lows_le hp (by rintro a ⟨⟩; simp only [IE.den, lenV]; omega), highs_le hp (by
   intro a ha
   cases l <;> simp [lenTop] at ha
   ·subst ha; exact hρ.ll _
   ·subst ha; exact hρ.rl _)⟩
 | .rcap r => ⟨lows_le hp (by rintro a ⟨⟩; simp only [IE.den]; omega), highs_le hp (by rintro a ⟨⟩)⟩
 | .ite c x y => by
  have hx := rng_in hρ hp x
  have hy := rng_in hρ hp y
  refine ⟨lows_le hp ?_, highs_le hp ?_⟩
  ·intro a ha
   cases h1 : (rng pc x).1 <;> cases h2 : (rng pc y).1 <;> simp [oboth, h1, h2] at ha
   have q1 := hx.1 _ h1
   have q2 := hy.1 _ h2
   simp only [IE.den]
   split
   ·exact omin_lo ha (by omega)
   ·exact omin_lo' ha (by omega)
  ·intro a ha
   cases h1 : (rng pc x).2 <;> cases h2 : (rng pc y).2 <;> simp [oboth, h1, h2] at ha
   have q1 := hx.2 _ h1
   have q2 := hy.2 _ h2
   simp only [IE.den]
   split
   ·exact omax_hi ha (by omega)
   ·exact omax_hi' ha (by omega)
def ldot (vs : Nat → Int) : List Int → Int
 | [] => 0
 | a :: l => a * vs 0 + ldot (fun i => vs (i + 1)) l
def LF.den (vs : Nat → Int) (c : LF) : Int := c.1 + ldot vs c.2
theorem ldot_vadd : ∀ (l m : List Int) (vs : Nat → Int), ldot vs (vadd l m) = ldot vs l + ldot vs m
 | [], m, vs => by simp [vadd, ldot]
 | a :: l, [], vs => by simp [vadd, ldot]
 | a :: l, b :: m, vs => by
  simp only [vadd, fint_eq, ldot, ldot_vadd l m, Int.add_mul]
  omega
theorem ldot_vscale (k : Int) : ∀ (l : List Int) (vs : Nat → Int), ldot vs (vscale k l) = k * ldot vs l
 | [], vs => by simp [vscale, ldot]
 | a :: l, vs => by simp only [vscale, fint_eq, ldot, ldot_vscale k l, Int.mul_add, Int.mul_assoc]
theorem ladd_den (vs : Nat → Int) (x y : LF) : (ladd x y).den vs = x.den vs + y.den vs := by
 simp only [ladd, fint_eq, fL_eq, LF.den, ldot_vadd]
 omega
theorem lscale_den (vs : Nat → Int) (k : Int) (x : LF) : (lscale k x).den vs = k * x.den vs := by
 simp only [lscale, fint_eq, fL_eq, LF.den, ldot_vscale, Int.mul_add]
noncomputable def valsOf (ρ : Rho) (as : List IE) (i : Nat) : Int := ((as[i]?).map (IE.den ρ)).getD 0
theorem unitA_den (e : IE) : ∀ (as : List IE) (l : List Int), unitA e as = some l → ldot (valsOf ρ as) l = e.den ρ
 | [], l, h => by simp [unitA] at h
 | a :: as, l, h => by
  simp only [unitA] at h
  split at h
  ·rename_i hb
   cases h
   rw [← IE.beq_eq _ _ hb]
   simp [ldot, valsOf]
  ·split at h
   ·rename_i v hv
    cases h
    simp only [ldot, Int.zero_mul, Int.zero_add]
    rw [← unitA_den e as v hv]
    congr 1
   ·cases h
theorem unitL_den {as : List IE} {e : IE} {c : LF} (h : unitL as e = some c) : c.den (valsOf ρ as) = e.den ρ := by
 unfold unitL at h
 split at h
 ·rename_i v hv
  cases h
  simp [LF.den, unitA_den e as v hv]
 ·cases h
theorem oladd_some {a b : Option LF} {c : LF} (h : oladd a b = some c) : ∃ x y, a = some x ∧ b = some y ∧ c = ladd x y := by
 unfold oladd at h
 split at h
 ·cases h; exact ⟨_, _, rfl, rfl, rfl⟩
 ·cases h
theorem olscale_some {k : Int} {a : Option LF} {c : LF} (h : olscale k a = some c) : ∃ x, a = some x ∧ c = lscale k x := by
 unfold olscale at h
 split at h
 ·cases h; exact ⟨_, rfl, rfl⟩
 ·cases h
theorem linOf_den (as : List IE) : ∀ (e : IE) (c : LF), linOf as e = some c → c.den (valsOf ρ as) = e.den ρ
 | .lit n, c, h => by simp only [linOf] at h; cases h; simp [LF.den, ldot, IE.den]
 | .add x y, c, h => by
  simp only [linOf] at h
  obtain ⟨a, b, ha, hb, rfl⟩ := oladd_some h
  rw [ladd_den, linOf_den as x a ha, linOf_den as y b hb]; rfl
 | .sub x y, c, h => by
  simp only [linOf] at h
  obtain ⟨a, b, ha, hb, rfl⟩ := oladd_some h
  obtain ⟨b', hb', rfl⟩ := olscale_some hb
  rw [ladd_den, lscale_den, linOf_den as x a ha, linOf_den as y b' hb']
  simp only [IE.den]; omega
 | .mul x y, c, h => by
  unfold linOf at h
  split at h
  ·obtain ⟨b', hb', rfl⟩ := olscale_some h
   rw [lscale_den, linOf_den as y b' hb']; rfl
  ·split at h
   ·obtain ⟨b', hb', rfl⟩ := olscale_some h
    rw [lscale_den, linOf_den as x b' hb', Int.mul_comm]; rfl
   ·exact unitL_den h
 | .var k n, c, h => unitL_den h
 | .wrap k x, c, h => unitL_den h
 | .bin o k x y, c, h => unitL_den h
 | .cel k l i j, c, h => unitL_den h
 | .len l, c, h => unitL_den h
 | .rcap r, c, h => unitL_den h
 | .fn k n a, c, h => unitL_den h
 | .ite a x y, c, h => unitL_den h
theorem leL_den {as : List IE} {x y : IE} {c : LF} (h : leL as x y = some c) : c.den (valsOf ρ as) = y.den ρ - x.den ρ := by
 obtain ⟨a, b, ha, hb, rfl⟩ := oladd_some h
 obtain ⟨b', hb', rfl⟩ := olscale_some hb
 rw [ladd_den, lscale_den, linOf_den as y a ha, linOf_den as x b' hb']; omega
theorem ltL_den {as : List IE} {x y : IE} {c : LF} (h : ltL as x y = some c) : c.den (valsOf ρ as) = y.den ρ - x.den ρ - 1 := by
 obtain ⟨a, b, ha, hb, rfl⟩ := oladd_some h
 cases ha
 rw [ladd_den, leL_den hb]; simp only [LF.den, ldot]; omega
def AllGe (vs : Nat → Int) (cs : List LF) : Prop := ∀ c ∈ cs, 0 ≤ c.den vs
theorem AllGe.nil (vs : Nat → Int) : AllGe vs [] := fun c h => by cases h
theorem AllGe.cons {vs : Nat → Int} {c : LF} {cs : List LF} (h : 0 ≤ c.den vs) (hs : AllGe vs cs) : AllGe vs (c :: cs) := by
 intro x hx
 rcases List.mem_cons.1 hx with rfl | hx
 ·exact h
 ·exact hs x hx
theorem consO_ok {vs : Nat → Int} {o : Option LF} {cs : List LF} (ho : ∀ c, o = some c → 0 ≤ c.den vs) (h : AllGe vs cs) : AllGe vs (consO o cs) := by
 unfold consO
 split
 ·exact .cons (ho _ rfl) h
 ·exact h
theorem consOf_ok (as : List IE) : ∀ (p : BE) (cs : List LF), p.den ρ = true → AllGe (valsOf ρ as) cs → AllGe (valsOf ρ as) (consOf as p cs)
 | .le x y, cs, hp, h => consO_ok (fun c hc => by rw [leL_den hc]; have := den_le_t.1 hp; omega) h
 | .eq x y, cs, hp, h => consO_ok (fun c hc => by rw [leL_den hc]; have := den_eq_t.1 hp; omega) (consO_ok (fun c hc => by rw [leL_den hc]; have := den_eq_t.1 hp; omega) h)
 | .not (.le x y), cs, hp, h => consO_ok (fun c hc => by rw [ltL_den hc]; rw [den_not] at hp; have := den_le_f.1 (by simpa using hp); omega) h
 | .and p q, cs, hp, h => by
  simp only [BE.den, Bool.and_eq_true] at hp
  exact consOf_ok as q _ hp.2 (consOf_ok as p _ hp.1 h)
 | .lit _, cs, hp, h => h
 | .var _, cs, hp, h => h
 | .iff _ _, cs, hp, h => h
 | .not (.lit _), cs, hp, h => h
 | .not (.var _), cs, hp, h => h
 | .not (.eq _ _), cs, hp, h => h
 | .not (.not _), cs, hp, h => h
 | .not (.and _ _), cs, hp, h => h
 | .not (.iff _ _), cs, hp, h => h
 | .not (.cel _ _ _), cs, hp, h => h
 | .not (.leq _ _), cs, hp, h => h
 | .not (.rnil _), cs, hp, h => h
 | .not (.fn _ _), cs, hp, h => h
 | .cel _ _ _, cs, hp, h => h
 | .leq _ _, cs, hp, h => h
 | .rnil _, cs, hp, h => h
 | .fn _ _, cs, hp, h => h
theorem consAll_ok (as : List IE) : ∀ (pc : List BE) (cs : List LF), Holds ρ pc → AllGe (valsOf ρ as) cs → AllGe (valsOf ρ as) (consAll as pc cs)
 | [], cs, hp, h => h
 | p :: pc, cs, hp, h => consAll_ok as pc _ hp.tail (by
   split
   ·exact h
   ·exact consOf_ok as p cs hp.head h)
theorem bounds_ok (hρ : ρ.Ok) {pc : List BE} (hp : Holds ρ pc) (as : List IE) : ∀ (l : List IE) (cs : List LF), AllGe (valsOf ρ as) cs → AllGe (valsOf ρ as) (bounds pc as l cs)
 | [], cs, h => h
 | e :: l, cs, h => by
  have hr := rng_in hρ hp e
  refine bounds_ok hρ hp as l _ (consO_ok (fun c hc => ?_) (consO_ok (fun c hc => ?_) h))
  ·split at hc
   ·rename_i a ha
    rw [leL_den hc, den_lit]
    have := hr.1 a ha
    omega
   ·cases hc
  ·split at hc
   ·rename_i a ha
    rw [leL_den hc, den_lit]
    have := hr.2 a ha
    omega
   ·cases hc
theorem ldot_hd (vs : Nat → Int) (l : List Int) : ldot vs l = hd0 l * vs 0 + ldot (fun i => vs (i + 1)) (tl0 l) := by
 cases l <;> simp [ldot, hd0, tl0]
theorem split3_ok (vs : Nat → Int) : ∀ (cs z p n : List LF), AllGe vs cs → AllGe (fun i => vs (i + 1)) z → (AllGe vs p ∧ ∀ c ∈ p, 0 < hd0 c.2) → (AllGe vs n ∧ ∀ c ∈ n, hd0 c.2 < 0) →
  AllGe (fun i => vs (i + 1)) (split3 cs z p n).1 ∧ (AllGe vs (split3 cs z p n).2.1 ∧ ∀ c ∈ (split3 cs z p n).2.1, 0 < hd0 c.2) ∧ (AllGe vs (split3 cs z p n).2.2 ∧ ∀ c ∈ (split3 cs z p n).2.2, hd0 c.2 < 0)
 | [], z, p, n, h, hz, hp, hn => ⟨hz, hp, hn⟩
 | c :: cs, z, p, n, h, hz, hp, hn => by
  have hc := h c (List.mem_cons_self ..)
  have hcs : AllGe vs cs := fun x hx => h x (List.mem_cons_of_mem _ hx)
  simp only [split3]
  split
  ·rename_i he
   refine split3_ok vs cs _ _ _ hcs (.cons ?_ hz) hp hn
   simp only [LF.den] at hc ⊢
   rw [ldot_hd, he] at hc
   simpa using hc
  ·rename_i m he
   refine split3_ok vs cs _ _ _ hcs hz ⟨.cons hc hp.1, ?_⟩ hn
   intro x hx
   rcases List.mem_cons.1 hx with rfl | hx
   ·rw [he]; show (0 : Int) < Int.ofNat (m + 1); simp
    try omega
   ·exact hp.2 x hx
  ·rename_i m he
   refine split3_ok vs cs _ _ _ hcs hz hp ⟨.cons hc hn.1, ?_⟩
   intro x hx
   rcases List.mem_cons.1 hx with rfl | hx
   ·rw [he]; exact Int.negSucc_lt_zero _
   ·exact hn.2 x hx
theorem combo_ok {vs : Nat → Int} {p n : LF} (hp : 0 ≤ p.den vs) (hp2 : 0 < hd0 p.2) (hn : 0 ≤ n.den vs) (hn2 : hd0 n.2 < 0) : 0 ≤ (combo p n).den (fun i => vs (i + 1)) := by
 have e : (ladd (lscale (-(hd0 n.2)) p) (lscale (hd0 p.2) n)).den vs = -(hd0 n.2) * p.den vs + hd0 p.2 * n.den vs := by rw [ladd_den, lscale_den, lscale_den]
 have ge : 0 ≤ -(hd0 n.2) * p.den vs + hd0 p.2 * n.den vs := Int.add_nonneg (Int.mul_nonneg (by omega) hp) (Int.mul_nonneg (by omega) hn)
 have hh : hd0 (ladd (lscale (-(hd0 n.2)) p) (lscale (hd0 p.2) n)).2 = 0 := by
  simp only [ladd, lscale, fint_eq, fL_eq]
  cases hpl : p.2 with
  | nil => simp [hpl, hd0] at hp2
  | cons a l =>
   cases hnl : n.2 with
   | nil => simp [hnl, hd0] at hn2
   | cons b m =>
    simp only [hd0, vscale, fint_eq, vadd]
    rw [Int.mul_comm a b, Int.neg_mul]; omega
 unfold combo
 rw [show (ladd (lscale (-(hd0 n.2)) p) (lscale (hd0 p.2) n)) = ((ladd (lscale (-(hd0 n.2)) p) (lscale (hd0 p.2) n)).1, (ladd (lscale (-(hd0 n.2)) p) (lscale (hd0 p.2) n)).2) from rfl]
 rw [← e] at ge
 simp only [LF.den] at ge ⊢
 rw [ldot_hd, hh] at ge
 simpa using ge
theorem combos1_ok {vs : Nat → Int} {p : LF} (hp : 0 ≤ p.den vs) (hp2 : 0 < hd0 p.2) : ∀ (ns acc : List LF), (AllGe vs ns ∧ ∀ c ∈ ns, hd0 c.2 < 0) → AllGe (fun i => vs (i + 1)) acc → AllGe (fun i => vs (i + 1)) (combos1 p ns acc)
 | [], acc, hn, h => h
 | n :: ns, acc, hn, h => combos1_ok hp hp2 ns _ ⟨fun x hx => hn.1 x (List.mem_cons_of_mem _ hx), fun x hx => hn.2 x (List.mem_cons_of_mem _ hx)⟩ (.cons (combo_ok hp hp2 (hn.1 n (List.mem_cons_self ..)) (hn.2 n (List.mem_cons_self ..))) h)
theorem combos_ok {vs : Nat → Int} : ∀ (ps ns acc : List LF), (AllGe vs ps ∧ ∀ c ∈ ps, 0 < hd0 c.2) → (AllGe vs ns ∧ ∀ c ∈ ns, hd0 c.2 < 0) → AllGe (fun i => vs (i + 1)) acc → AllGe (fun i => vs (i + 1)) (combos ps ns acc)
 | [], ns, acc, hp, hn, h => h
 | p :: ps, ns, acc, hp, hn, h => combos_ok ps ns _ ⟨fun x hx => hp.1 x (List.mem_cons_of_mem _ hx), fun x hx => hp.2 x (List.mem_cons_of_mem _ hx)⟩ hn (combos1_ok (hp.1 p (List.mem_cons_self ..)) (hp.2 p (List.mem_cons_self ..)) ns acc hn h)
theorem anyNeg_ok {vs : Nat → Int} : ∀ (cs : List LF), AllGe vs cs → anyNeg cs = true → False
 | [], h, hn => by simp [anyNeg] at hn
 | c :: cs, h, hn => by
  simp only [anyNeg] at hn
  split at hn
  ·rename_i m h1 h2
   have := h c (List.mem_cons_self ..)
   simp only [LF.den, h1, h2, ldot] at this
   have := Int.negSucc_lt_zero m
   omega
  ·exact anyNeg_ok cs (fun x hx => h x (List.mem_cons_of_mem _ hx)) hn
theorem fmGo_ok : ∀ (k : Nat) (vs : Nat → Int) (cs : List LF), AllGe vs cs → fmGo k cs = true → False
 | 0, vs, cs, h, hf => anyNeg_ok cs h hf
 | k + 1, vs, cs, h, hf => by
  simp only [fmGo] at hf
  obtain ⟨hz, hp, hn⟩ := split3_ok vs cs [] [] [] h (.nil _) ⟨.nil _, fun c hc => by cases hc⟩ ⟨.nil _, fun c hc => by cases hc⟩
  refine fmGo_ok k (fun i => vs (i + 1)) _ ?_ hf
  split
  ·exact combos_ok _ _ _ hp hn hz
  ·exact hz
theorem refutes_ok {vs : Nat → Int} {k : Nat} {o : Option LF} {cs : List LF} (h : AllGe vs cs) (hr : refutes k o cs = true) : ∃ c, o = some c ∧ ¬ 0 ≤ c.den vs := by
 unfold refutes at hr
 split at hr
 ·rename_i c
  exact ⟨c, rfl, fun hc => fmGo_ok k vs _ (.cons hc h) hr⟩
 ·cases hr
theorem leF_den (hρ : ρ.Ok) {pc : List BE} (hp : Holds ρ pc) (x y : IE) (r : Bool) (h : leF pc x y = some r) : decide (x.den ρ ≤ y.den ρ) = r := by
 unfold leF at h
 split at h
 ·simp only [fL_eq] at h
  have hall : AllGe (valsOf ρ (growA (growA (growA (atomsOf y (atomsOf x [])) pc) pc) pc)) (bounds pc (growA (growA (growA (atomsOf y (atomsOf x [])) pc) pc) pc) (growA (growA (growA (atomsOf y (atomsOf x [])) pc) pc) pc) (consAll (growA (growA (growA (atomsOf y (atomsOf x [])) pc) pc) pc) pc [])) :=
   bounds_ok hρ hp _ _ _ (consAll_ok _ pc [] hp (.nil _))
  split at h
  ·rename_i h1
   cases h
   obtain ⟨c, hc, hn⟩ := refutes_ok hall h1
   rw [ltL_den hc] at hn
   simp; omega
  ·split at h
   ·rename_i h1
    cases h
    obtain ⟨c, hc, hn⟩ := refutes_ok hall h1
    rw [leL_den hc] at hn
    simp; omega
   ·cases h
 ·cases h
theorem eqF_den (hρ : ρ.Ok) {pc : List BE} (hp : Holds ρ pc) (x y : IE) (r : Bool) (h : eqF pc x y = some r) : decide (x.den ρ = y.den ρ) = r := by
 unfold eqF at h
 split at h
 ·rename_i h1
  cases h
  have := leF_den hρ hp _ _ _ h1
  simp at this ⊢; omega
 ·rename_i h1
  have a1 := leF_den hρ hp _ _ _ h1
  have a2 := leF_den hρ hp _ _ _ h
  rw [← a2]
  simp at a1 ⊢; omega
 ·split at h
  ·rename_i h1
   cases h
   have := leF_den hρ hp _ _ _ h1
   simp at this ⊢; omega
  ·cases h
theorem wrapK_den (hρ : ρ.Ok) {pc : List BE} (hp : Holds ρ pc) (k : IntKind) (e : IE) : (wrapK k pc e).den ρ = k.wrap (e.den ρ) := by
 unfold wrapK
 split
 ·rename_i h
  have hr := rng_in hρ hp e
  obtain ⟨lo, hi⟩ := hr
  generalize rng pc e = r at *
  obtain ⟨a, b⟩ := r
  cases a <;> cases b <;> simp [oin] at h
  rename_i a b
  rw [ileb_iff, ileb_iff] at h
  have := lo a rfl
  have := hi b rfl
  exact (wrap_in k _ (by omega) (by omega)).symm
 ·split
  ·rename_i h1
   split
   ·rename_i h2
    have a1 := of_decide_eq_true (leF_den hρ hp _ _ _ h1)
    have a2 := of_decide_eq_true (leF_den hρ hp _ _ _ h2)
    exact (wrap_in k _ a1 a2).symm
   ·rfl
  ·rfl
theorem litK_den (k : IntKind) (n : Int) : (litK k n).den ρ = k.wrap n := by
 unfold litK
 split
 ·split
  ·rename_i h1 h2
   rw [ileb_iff] at h1 h2
   exact (wrap_in k n h1 h2).symm
  ·rw [fint_eq]; rfl
 ·rw [fint_eq]; rfl
theorem mkAdd_den (hρ : ρ.Ok) {pc : List BE} (hp : Holds ρ pc) (k : IntKind) (x y : IE) : (mkAdd k pc x y).den ρ = k.wrap (x.den ρ + y.den ρ) := by
 unfold mkAdd
 split
 ·rw [fint_eq, litK_den]; rfl
 ·rw [wrapK_den hρ hp]; rfl
theorem mkSub_den (hρ : ρ.Ok) {pc : List BE} (hp : Holds ρ pc) (k : IntKind) (x y : IE) : (mkSub k pc x y).den ρ = k.wrap (x.den ρ - y.den ρ) := by
 unfold mkSub
 split
 ·rw [fint_eq, litK_den]; rfl
 ·rw [wrapK_den hρ hp]; rfl
theorem mkMul_den (hρ : ρ.Ok) {pc : List BE} (hp : Holds ρ pc) (k : IntKind) (x y : IE) : (mkMul k pc x y).den ρ = k.wrap (x.den ρ * y.den ρ) := by
 unfold mkMul
 split
 ·rw [fint_eq, litK_den]; rfl
 ·rw [wrapK_den hρ hp]; rfl
theorem mkConv_den (hρ : ρ.Ok) {pc : List BE} (hp : Holds ρ pc) (k : IntKind) (x : IE) : (mkConv k pc x).den ρ = k.wrap (x.den ρ) := by
 unfold mkConv
 split
 ·rw [litK_den]; rfl
 ·rename_i c a b
  by_cases h : c.den ρ = true
  ·have e1 : (IE.ite c (wrapK k (c :: pc) a) (wrapK k (.not c :: pc) b)).den ρ = (wrapK k (c :: pc) a).den ρ := by simp only [IE.den]; rw [if_pos h]
   have e2 : (IE.ite c a b).den ρ = a.den ρ := by simp only [IE.den]; rw [if_pos h]
   rw [e1, e2, wrapK_den hρ (hp.cons h)]
  ·have e1 : (IE.ite c (wrapK k (c :: pc) a) (wrapK k (.not c :: pc) b)).den ρ = (wrapK k (.not c :: pc) b).den ρ := by simp only [IE.den]; rw [if_neg h]
   have e2 : (IE.ite c a b).den ρ = b.den ρ := by simp only [IE.den]; rw [if_neg h]
   rw [e1, e2, wrapK_den hρ (hp.cons (p := .not c) (by simp only [BE.den]; cases hc : c.den ρ with
    | true => exact absurd hc h
    | false => rfl))]
 ·rw [wrapK_den hρ hp]
theorem mkBin_den (op : BinOp) (k : IntKind) (x y : IE) : (mkBin op k x y).den ρ = binI op k (x.den ρ) (y.den ρ) := by
 unfold mkBin
 split
 ·rw [fint_eq]; rfl
 ·rfl
theorem hasB_den {pc : List BE} (hp : Holds ρ pc) (c : BE) (r : Bool) (h : hasB c pc = some r) : c.den ρ = r := by
  induction pc with
  | nil => simp [hasB] at h
  | cons p pc ih =>
    simp only [hasB] at h
    split at h
    · rename_i hb
      have := BE.beq_eq _ _ hb
      subst this
      cases h
      exact hp.head
    · split at h
      · split at h
        · rename_i hb
          have := BE.beq_eq _ _ hb
          subst this
          cases h
          have := hp.head
          simpa [BE.den] using this
        · exact ih hp.tail h
      · exact ih hp.tail h
theorem oorelse_some {a b : Option Bool} {r : Bool} (h : oorelse a b = some r) : a = some r ∨ b = some r := by
 cases a <;> simp [oorelse] at h
 ·exact .inr h
 ·exact .inl (by rw [h])
theorem leR_den {m n : Int} {x y : Option Int × Option Int} (hx : Within m x) (hy : Within n y) (r : Bool) (h : leR x y = some r) : decide (m ≤ n) = r := by
 obtain ⟨a, b⟩ := x
 obtain ⟨c, d⟩ := y
 obtain ⟨x1, x2⟩ := hx
 obtain ⟨y1, y2⟩ := hy
 simp only [leR] at h
 split at h
 ·cases h
  rename_i hb
  cases b <;> cases c <;> simp at hb
  rw [ileb_iff] at hb
  have := x2 _ rfl
  have := y1 _ rfl
  simp; omega
 ·split at h
  ·cases h
   rename_i hb
   cases d <;> cases a <;> simp at hb
   rw [ileb_false] at hb
   have := x1 _ rfl
   have := y2 _ rfl
   simp; omega
  ·cases h
theorem eqR_den {m n : Int} {x y : Option Int × Option Int} (hx : Within m x) (hy : Within n y) (r : Bool) (h : eqR x y = some r) : decide (m = n) = r := by
 obtain ⟨a, b⟩ := x
 obtain ⟨c, d⟩ := y
 obtain ⟨x1, x2⟩ := hx
 obtain ⟨y1, y2⟩ := hy
 cases a <;> cases b <;> cases c <;> cases d <;> simp [eqR] at h
 have := x1 _ rfl
 have := x2 _ rfl
 have := y1 _ rfl
 have := y2 _ rfl
 split at h
 ·rename_i h1; rw [ileb_iff] at h1
  split at h
  ·rename_i h2; rw [ileb_iff] at h2
   split at h
   ·rename_i h3; rw [ileb_iff] at h3
    split at h
    ·rename_i h4; rw [ileb_iff] at h4
     cases h; simp; omega
    ·cases h
   ·cases h
  ·rename_i h2; cases h; simp [ileb_iff] at h2 ⊢; omega
 ·rename_i h2; cases h; simp [ileb_iff] at h2 ⊢; omega
theorem leB_den {pc : List BE} (hp : Holds ρ pc) (x y : IE) (r : Bool) (h : leB pc x y = some r) : decide (x.den ρ ≤ y.den ρ) = r := by
 rcases oorelse_some h with h | h
 ·exact hasB_den hp _ _ h
 ·split at h
  ·rename_i h2
   cases h
   have := hasB_den hp _ _ h2
   simp [BE.den] at this ⊢; omega
  ·cases h
theorem eqB_den {pc : List BE} (hp : Holds ρ pc) (x y : IE) (r : Bool) (h : eqB pc x y = some r) : decide (x.den ρ = y.den ρ) = r := by
 rcases oorelse_some h with h | h
 ·exact hasB_den hp _ _ h
 ·have := hasB_den hp _ _ h
  simp only [BE.den] at this
  rw [← this]
  simp [eq_comm]
theorem leE_den {pc : List BE} (hp : Holds ρ pc) (x y : IE) (r : Bool) (h : leE pc x y = some r) : decide (x.den ρ ≤ y.den ρ) = r := by
 unfold leE at h
 split at h
 ·rename_i h1
  cases h
  have := eqB_den hp _ _ _ h1
  simp at this ⊢; omega
 ·rename_i h1
  split at h
  ·rename_i h2
   cases h
   have := eqB_den hp _ _ _ h1
   have := leB_den hp _ _ _ h2
   simp at *; omega
  ·cases h
 ·cases h
theorem eqL_den {pc : List BE} (hp : Holds ρ pc) (x y : IE) (r : Bool) (h : eqL pc x y = some r) : decide (x.den ρ = y.den ρ) = r := by
 unfold eqL at h
 split at h
 ·rename_i h1
  split at h
  ·rename_i h2
   cases h
   have a1 := leB_den hp _ _ _ h1
   have a2 := leB_den hp _ _ _ h2
   rw [← a2]
   simp at a1 ⊢; omega
  ·cases h
 ·rename_i h1
  cases h
  have := leB_den hp _ _ _ h1
  simp at *; omega
 ·split at h
  ·rename_i h2
   cases h
   have := leB_den hp _ _ _ h2
   simp at *; omega
  ·cases h
theorem dec_den (hρ : ρ.Ok) {pc : List BE} (hp : Holds ρ pc) : ∀ (c : BE) (r : Bool), dec pc c = some r → c.den ρ = r
 | .lit b, r, h => by simp [dec] at h; simp [BE.den, h]
 | .var n, r, h => hasB_den hp _ _ h
 | .cel l i j, r, h => hasB_den hp _ _ h
 | .leq a b, r, h => by
  simp only [dec] at h
  split at h
  ·rename_i hb
   cases h
   rw [LE.beq_eq _ _ hb]; simp [BE.den, eqV]
  ·exact hasB_den hp _ _ h
 | .rnil r', r, h => hasB_den hp _ _ h
 | .fn n a, r, h => hasB_den hp _ _ h
 | .le x y, r, h => by
  simp only [dec] at h
  split at h
  ·rename_i hb
   cases h
   rw [IE.beq_eq _ _ hb]; simp [BE.den]
  ·rcases oorelse_some h with h | h
   ·exact leR_den (rng_in hρ hp x) (rng_in hρ hp y) r h
   ·rcases oorelse_some h with h | h
    ·exact leB_den hp _ _ _ h
    ·rcases oorelse_some h with h | h
     ·exact leE_den hp _ _ _ h
     ·rw [BE.den]; exact leF_den hρ hp _ _ _ h
 | .eq x y, r, h => by
  simp only [dec] at h
  split at h
  ·rename_i hb
   cases h
   rw [IE.beq_eq _ _ hb]; simp [BE.den]
  ·rcases oorelse_some h with h | h
   ·exact eqR_den (rng_in hρ hp x) (rng_in hρ hp y) r h
   ·rcases oorelse_some h with h | h
    ·exact eqB_den hp _ _ _ h
    ·rcases oorelse_some h with h | h
     ·exact eqL_den hp _ _ _ h
     ·rw [BE.den]; exact eqF_den hρ hp _ _ _ h
 | .not x, r, h => by
  simp only [dec] at h
  split at h
  ·rename_i b hb
   cases h
   rw [BE.den, dec_den hρ hp x _ hb]
  ·cases h
 | .and x y, r, h => by
  simp only [dec] at h
  split at h
  ·rename_i hb
   cases h
   rw [BE.den, dec_den hρ hp x _ hb]; rfl
  ·rename_i hb
   rw [BE.den, dec_den hρ hp x _ hb, dec_den hρ hp y _ h]; rfl
  ·split at h
   ·rename_i hb
    cases h
    rw [BE.den, dec_den hρ hp y _ hb]; simp
   ·cases h
 | .iff x y, r, h => by
  simp only [dec] at h
  split at h
  ·rename_i hb hc
   cases h
   rw [BE.den, dec_den hρ hp x _ hb, dec_den hρ hp y _ hc]
  ·cases h
theorem mkNot_den (c : BE) : (mkNot c).den ρ = !c.den ρ := by cases c <;> simp [mkNot, BE.den]
theorem mkEq_den (x y : IE) : (mkEq x y).den ρ = decide (x.den ρ = y.den ρ) := by
 unfold mkEq
 split
 ·rw [Bool.eq_iff_iff, decide_eq_true_iff]; exact ieqb_iff _ _
 ·rw [Bool.eq_iff_iff, decide_eq_true_iff]
  show decide (_ = _) = true ↔ _
  rw [decide_eq_true_iff]; exact eq_comm
 ·rfl
theorem mkLe_den (x y : IE) : (mkLe x y).den ρ = decide (x.den ρ ≤ y.den ρ) := by
 unfold mkLe
 split
 ·rw [Bool.eq_iff_iff, decide_eq_true_iff]; exact ileb_iff _ _
 ·rfl
theorem mkIff_den (x y : BE) : (mkIff x y).den ρ = (x.den ρ == y.den ρ) := by
 unfold mkIff
 split <;> simp [BE.den, mkNot_den]
theorem mkAnd_den (x y : BE) : (mkAnd x y).den ρ = (x.den ρ && y.den ρ) := by
 unfold mkAnd
 split <;> simp [BE.den]
end
end Go.Proofs.Ythenenacmiiphaa.Sx
namespace Go.Proofs.Ythenenacmiiphaa.Sx
open Go
structure Same (ρ ρ' : Rho) : Prop where
 i : ρ'.i = ρ.i
 b : ρ'.b = ρ.b
 l : ρ'.l = ρ.l
 v : ρ'.v = ρ.v
 z : ρ'.z = ρ.z
theorem Same.refl (ρ : Rho) : Same ρ ρ := ⟨rfl, rfl, rfl, rfl, rfl⟩
theorem Same.trans {a b c : Rho} (h : Same a b) (g : Same b c) : Same a c := ⟨g.i.trans h.i, g.b.trans h.b, g.l.trans h.l, g.v.trans h.v, g.z.trans h.z⟩
mutual
theorem IE.den_same {ρ ρ' : Rho} (h : Same ρ ρ') : ∀ (e : IE), e.den ρ' = e.den ρ
 | .lit n => by simp only [IE.den]
 | .var k n => by simp only [IE.den, h.i]
 | .add x y => by simp only [IE.den, IE.den_same h x, IE.den_same h y]
 | .sub x y => by simp only [IE.den, IE.den_same h x, IE.den_same h y]
 | .mul x y => by simp only [IE.den, IE.den_same h x, IE.den_same h y]
 | .wrap k x => by simp only [IE.den, IE.den_same h x]
 | .bin op k x y => by simp only [IE.den, IE.den_same h x, IE.den_same h y]
 | .cel k l i j => by simp only [IE.den, LE.den_same h l, IE.den_same h i]
 | .len l => by simp only [IE.den, LE.den_same h l]
 | .rcap r => by simp only [IE.den, h.z]
 | .fn k n a => by simp only [IE.den, AL.den_same h a, h.z]
 | .ite c x y => by simp only [IE.den, BE.den_same h c, IE.den_same h x, IE.den_same h y]
theorem BE.den_same {ρ ρ' : Rho} (h : Same ρ ρ') : ∀ (e : BE), e.den ρ' = e.den ρ
 | .lit b => by simp only [BE.den]
 | .var n => by simp only [BE.den, h.b]
 | .le x y => by simp only [BE.den, IE.den_same h x, IE.den_same h y]
 | .eq x y => by simp only [BE.den, IE.den_same h x, IE.den_same h y]
 | .not x => by simp only [BE.den, BE.den_same h x]
 | .and x y => by simp only [BE.den, BE.den_same h x, BE.den_same h y]
 | .iff x y => by simp only [BE.den, BE.den_same h x, BE.den_same h y]
 | .cel l i j => by simp only [BE.den, LE.den_same h l, IE.den_same h i]
 | .leq a b => by simp only [BE.den, LE.den_same h a, LE.den_same h b]
 | .rnil r => by simp only [BE.den, h.z]
 | .fn n a => by simp only [BE.den, AL.den_same h a, h.z]
theorem LE.den_same {ρ ρ' : Rho} (h : Same ρ ρ') : ∀ (e : LE), e.den ρ' = e.den ρ
 | .nil => by simp only [LE.den]
 | .var n => by simp only [LE.den, h.l]
 | .rom r => by simp only [LE.den, h.z]
 | .cat a b => by simp only [LE.den, LE.den_same h a, LE.den_same h b]
 | .one c => by simp only [LE.den, AL.den_same h c]
 | .set a i c => by simp only [LE.den, LE.den_same h a, IE.den_same h i, AL.den_same h c]
 | .take a i => by simp only [LE.den, LE.den_same h a, IE.den_same h i]
 | .drop a i => by simp only [LE.den, LE.den_same h a, IE.den_same h i]
 | .rep c n => by simp only [LE.den, AL.den_same h c, IE.den_same h n]
 | .str a i j => by simp only [LE.den, LE.den_same h a, IE.den_same h i]
 | .fn n a => by simp only [LE.den, AL.den_same h a, h.z]
theorem AL.den_same {ρ ρ' : Rho} (h : Same ρ ρ') : ∀ (e : AL), e.den ρ' = e.den ρ
 | .nil => by simp only [AL.den]
 | .int k e r => by simp only [AL.den, IE.den_same h e, AL.den_same h r]
 | .bool b r => by simp only [AL.den, BE.den_same h b, AL.den_same h r]
 | .lst l r => by simp only [AL.den, LE.den_same h l, AL.den_same h r]
 | .cel l i j r => by simp only [AL.den, LE.den_same h l, IE.den_same h i, AL.den_same h r]
end
theorem Same.holds {ρ ρ' : Rho} (h : Same ρ ρ') {pc : List BE} : Holds ρ' pc ↔ Holds ρ pc := by
 unfold Holds
 simp [BE.den_same h]
theorem Same.ok {ρ ρ' : Rho} (h : Same ρ ρ') (hρ : ρ.Ok) : ρ'.Ok := ⟨by rw [h.i]; exact hρ.lo, by rw [h.i]; exact hρ.hi, by rw [h.l]; exact hρ.ll, by rw [h.l]; exact hρ.lodd, by rw [h.z]; exact hρ.rl, by rw [h.z]; exact hρ.fodd⟩

section
variable {ρ : Rho} {pc : List BE}
theorem ckeq_iff (a b : CK) : ckeq a b = true ↔ a = b := by
 cases a <;> cases b <;> simp [ckeq, keq_iff]
theorem ksEq_eq : ∀ (a b : List CK), ksEq a b = true → a = b
 | [], b, h => by cases b <;> simp [ksEq] at h; rfl
 | x :: l, b, h => by
  cases b with
  | nil => simp [ksEq] at h
  | cons y m =>
   simp only [ksEq] at h
   split at h
   ·rename_i h1
    rw [(ckeq_iff _ _).1 h1, ksEq_eq l m h]
   ·cases h
theorem isByteK_eq {ks : List CK} (h : isByteK ks = true) : ks = byteK := by
 unfold isByteK at h
 split at h
 ·rfl
 ·cases h
theorem ieqb_t {a b : Int} (h : ieqb a b = true) : a = b := (ieqb_iff a b).1 h
theorem addE_den (x y : IE) : (addE x y).den ρ = x.den ρ + y.den ρ := by
 unfold addE
 split
 ·rw [fint_eq]; rfl
 ·simp [IE.den]
 ·simp [IE.den]
 ·rw [fint_eq]
  split
  ·rename_i h
   have := ieqb_t h
   simp only [IE.den]; omega
  ·simp only [IE.den]; omega
 ·rfl
theorem subE_den (x y : IE) : (subE x y).den ρ = x.den ρ - y.den ρ := by
 unfold subE
 split
 ·rw [fint_eq]; rfl
 ·simp [IE.den]
 ·rw [fint_eq]
  split
  ·rename_i h
   have := ieqb_t h
   simp only [IE.den]; omega
  ·simp only [IE.den]; omega
 ·split
  ·rename_i h
   rw [IE.beq_eq _ _ h]; simp only [IE.den]; omega
  ·split
   ·rename_i h
    rw [IE.beq_eq _ _ h]; simp only [IE.den]; omega
   ·split
    ·rename_i h
     rw [IE.beq_eq _ _ h]; simp only [IE.den]; omega
    ·rfl
 ·split
  ·rename_i h
   rw [IE.beq_eq _ _ h]; simp only [IE.den]; omega
  ·rfl
theorem resI_den (hρ : ρ.Ok) (hp : Holds ρ pc) : ∀ e : IE, (resI pc e).den ρ = e.den ρ := by
  intro e
  induction e using IE.ind with
  | ite c x y hx hy =>
    simp only [resI]
    split
    · rename_i h
      rw [hx, IE.den, dec_den hρ hp _ _ h]; rfl
    · rename_i h
      rw [hy, IE.den, dec_den hρ hp _ _ h]; rfl
    · rfl
  | add x y hx hy => simp only [resI, addE_den, hx, hy, IE.den]
  | _ => rfl
theorem lenV_eq (l : LV) : lenV l = (l.length : Int) := rfl
theorem dec_le {x y : IE} (hρ : ρ.Ok) (hp : Holds ρ pc) (h : dec pc (mkLe x y) = some true) : x.den ρ ≤ y.den ρ := by
 have := dec_den hρ hp _ _ h
 rw [mkLe_den] at this
 exact of_decide_eq_true this
theorem dec_lt {x y : IE} (hρ : ρ.Ok) (hp : Holds ρ pc) (h : dec pc (mkLe x y) = some false) : y.den ρ < x.den ρ := by
 have := dec_den hρ hp _ _ h
 rw [mkLe_den] at this
 have := of_decide_eq_false this
 omega
theorem dec_nle {x y : IE} (hρ : ρ.Ok) (hp : Holds ρ pc) (h : dec pc (mkNot (mkLe x y)) = some true) : y.den ρ < x.den ρ := by
 have := dec_den hρ hp _ _ h
 rw [mkNot_den, mkLe_den] at this
 simp at this; exact this
theorem dec_eq {x y : IE} (hρ : ρ.Ok) (hp : Holds ρ pc) (h : dec pc (mkEq x y) = some true) : x.den ρ = y.den ρ := by
 have := dec_den hρ hp _ _ h
 rw [mkEq_den] at this
 exact of_decide_eq_true this
theorem dec_ne {x y : IE} (hρ : ρ.Ok) (hp : Holds ρ pc) (h : dec pc (mkEq x y) = some false) : x.den ρ ≠ y.den ρ := by
 have := dec_den hρ hp _ _ h
 rw [mkEq_den] at this
 exact of_decide_eq_false this
theorem LE.ind {M : LE → Prop} (nil : M .nil) (var : ∀ n, M (.var n)) (rom : ∀ r, M (.rom r)) (cat : ∀ a b, M a → M b → M (.cat a b)) (one : ∀ c, M (.one c)) (set : ∀ a i c, M a → M (.set a i c)) (take : ∀ a i, M a → M (.take a i)) (drop : ∀ a i, M a → M (.drop a i))
  (rep : ∀ c n, M (.rep c n)) (str : ∀ l i j, M (.str l i j)) (fn : ∀ n a, M (.fn n a)) : ∀ e, M e
 | .nil => nil
 | .var n => var n
 | .rom r => rom r
 | .cat a b => cat a b (LE.ind nil var rom cat one set take drop rep str fn a) (LE.ind nil var rom cat one set take drop rep str fn b)
 | .one c => one c
 | .set a i c => set a i c (LE.ind nil var rom cat one set take drop rep str fn a)
 | .take a i => take a i (LE.ind nil var rom cat one set take drop rep str fn a)
 | .drop a i => drop a i (LE.ind nil var rom cat one set take drop rep str fn a)
 | .rep c n => rep c n
 | .str l i j => str l i j
 | .fn n a => fn n a
theorem lenE_den (hρ : ρ.Ok) (hp : Holds ρ pc) : ∀ l : LE, (lenE pc l).den ρ = ((l.den ρ).length : Int) := by
  intro l
  induction l using LE.ind with
  | nil => simp [lenE, IE.den, LE.den]
  | one c => simp [lenE, IE.den, LE.den]
  | cat a b ha hb => simp [lenE, addE_den, ha, hb, LE.den]
  | set a i c ha => simp [lenE, ha, LE.den]
  | rep c n =>
    simp only [lenE]
    split
    · rename_i h
      have := dec_le hρ hp h
      simp only [IE.den] at this
      simp [LE.den]; omega
    · simp [IE.den, lenV]
  | take a k ha =>
    simp only [lenE]
    split
    · rename_i h
      split
      · rename_i h2
        have := dec_le hρ hp h
        have := dec_le hρ hp h2
        rw [ha] at this
        simp only [IE.den] at *
        simp [LE.den]; omega
      · simp [IE.den, lenV]
    · simp [IE.den, lenV]
  | drop a k ha =>
    simp only [lenE]
    split
    · rename_i h
      split
      · rename_i h2
        have := dec_le hρ hp h
        have := dec_le hρ hp h2
        rw [ha] at this
        simp only [IE.den] at *
        rw [subE_den, ha]
        simp [LE.den]; omega
      · simp [IE.den, lenV]
    · simp [IE.den, lenV]
  | _ => simp [lenE, IE.den, lenV]
theorem Typed.nil (ks : List CK) : Typed ks [] := fun e h => by cases h
theorem Typed.app {ks : List CK} {a b : LV} (ha : Typed ks a) (hb : Typed ks b) : Typed ks (a ++ b) := fun e h => by
 rcases List.mem_append.1 h with h | h
 ·exact ha e h
 ·exact hb e h
theorem Typed.sub {ks : List CK} {a b : LV} (ha : Typed ks a) (h : ∀ e ∈ b, e ∈ a) : Typed ks b := fun e he => ha e (h e he)
theorem Typed.take {ks : List CK} {a : LV} (ha : Typed ks a) (n : Nat) : Typed ks (a.take n) := ha.sub fun e h => List.mem_of_mem_take h
theorem Typed.drop {ks : List CK} {a : LV} (ha : Typed ks a) (n : Nat) : Typed ks (a.drop n) := ha.sub fun e h => List.mem_of_mem_drop h
theorem Typed.set {ks : List CK} {a : LV} (ha : Typed ks a) (n : Nat) {e : List Value} (he : conf ks e = true) : Typed ks (a.set n e) := fun x hx => by
 rcases List.mem_or_eq_of_mem_set hx with h | rfl
 ·exact ha x h
 ·exact he
theorem Typed.one {ks : List CK} {e : List Value} (he : conf ks e = true) : Typed ks [e] := fun x hx => by
 rw [List.mem_singleton] at hx; subst hx; exact he
theorem Typed.rep {ks : List CK} {e : List Value} (n : Nat) (he : conf ks e = true) : Typed ks (List.replicate n e) := fun x hx => by
 rw [(List.mem_replicate.1 hx).2]; exact he
theorem conf_length : ∀ {ks : List CK} {e : List Value}, conf ks e = true → e.length = ks.length
 | [], [], _ => rfl
 | [], v :: vs, h => by simp [conf] at h
 | k :: ks, [], h => by simp [conf] at h
 | k :: ks, v :: vs, h => by
  simp only [conf] at h
  split at h
  ·simp [conf_length h]
  ·cases h
theorem conf_cons {k : CK} {ks : List CK} {e : List Value} (h : conf (k :: ks) e = true) : ∃ v vs, e = v :: vs ∧ conf1 k v = true ∧ conf ks vs = true := by
 cases e with
 | nil => simp [conf] at h
 | cons v vs =>
  simp only [conf] at h
  split at h
  ·exact ⟨v, vs, rfl, ‹_›, h⟩
  ·cases h
theorem clampK_in {k : IntKind} {n : Int} (h1 : kmin k ≤ n) (h2 : n ≤ kmax k) : clampK k n = n := by
 unfold clampK; rw [if_pos ⟨h1, h2⟩]
theorem conf1_int {k : IntKind} {v : Value} (h : conf1 (.int k) v = true) : v = .int k (clampK k (intV v)) ∧ kmin k ≤ intV v ∧ intV v ≤ kmax k := by
 cases v <;> simp [conf1, keq_iff, ileb_iff] at h
 rename_i n
 obtain ⟨rfl, h1, h2⟩ := h
 refine ⟨?_, h1, h2⟩
 show Value.int k n = .int k (clampK k n)
 rw [clampK_in h1 h2]
theorem conf1_bool {v : Value} (h : conf1 .bool v = true) : v = .bool (boolV v) := by
 cases v <;> simp [conf1] at h
 rfl
theorem byteL_strV (s : ByteArray) : byteL (strV (.string s)) = s := by
 unfold byteL strV bytesOf
 simp only [List.map_map, Function.comp_def, List.headD_cons, intV]
 apply ByteArray.ext
 apply Array.ext'
 simp
theorem conf1_str {v : Value} (h : conf1 .str v = true) : v = .string (byteL (strV v)) := by
 cases v <;> simp [conf1] at h
 rw [byteL_strV]
theorem atomsAt_den (l : LE) (i : IE) : ∀ (ks : List CK) (j : Nat) (e : List Value), conf ks (e.drop j) = true → (l.den ρ).getD (i.den ρ).toNat [] = e → SV.denL ρ (atomsAt l i ks j) = e.drop j
 | [], j, e, hc, he => by
  simp only [atomsAt, SV.denL]
  cases hd : e.drop j with
  | nil => rfl
  | cons v vs => rw [hd] at hc; simp [conf] at hc
 | k :: ks, j, e, hc, he => by
  obtain ⟨v, vs, hd, h1, h2⟩ := conf_cons hc
  have hj : e.getD j (.bool false) = v := by
   have : e[j]? = some v := by
    have := congrArg (·[0]?) hd
    simpa using this
   simp [List.getD, this]
  have hvs : vs = e.drop (j + 1) := by
   have := congrArg (List.drop 1) hd
   simpa [Nat.add_comm] using this.symm
  have ih := atomsAt_den l i ks (j + 1) e (by rw [← hvs]; exact h2) he
  have hcel : celV (l.den ρ) (i.den ρ) j = v := by unfold celV; rw [he, hj]
  rw [hd]
  cases k with
  | int k =>
   simp only [atomsAt, SV.denL, SV.den, IE.den, hcel, ih, hvs]
   rw [← (conf1_int h1).1]
  | bool =>
   simp only [atomsAt, SV.denL, SV.den, BE.den, hcel, ih, hvs]
   rw [← conf1_bool h1]
  | str =>
   simp only [atomsAt, SV.denL, SV.den, LE.den, hcel, ih, hvs]
   rw [← conf1_str h1]
  | any => simp only [atomsAt, SV.denL, SV.den, hcel, ih, hvs]
theorem atomsAt_length (l : LE) (i : IE) : ∀ (ks : List CK) (j : Nat), (atomsAt l i ks j).length = ks.length
 | [], j => rfl
 | k :: ks, j => by cases k <;> simp [atomsAt, atomsAt_length l i ks (j + 1)]
theorem atomsAt_names (l : LE) (i : IE) : ∀ (ks : List CK) (j : Nat), SV.namesL (atomsAt l i ks j) = []
 | [], j => rfl
 | k :: ks, j => by cases k <;> simp [atomsAt, SV.namesL, SV.names, atomsAt_names l i ks (j + 1)]
theorem alCells_den : ∀ c : AL, SV.denL ρ (alCells c) = (c.den ρ).map AV.cell
 | .nil => by simp [alCells, SV.denL, AL.den]
 | .int k e r => by simp [alCells, SV.denL, SV.den, AL.den, AV.cell, alCells_den r]
 | .bool b r => by simp [alCells, SV.denL, SV.den, AL.den, AV.cell, alCells_den r]
 | .lst l r => by simp [alCells, SV.denL, SV.den, AL.den, AV.cell, alCells_den r]
 | .cel l i j r => by simp [alCells, SV.denL, SV.den, AL.den, AV.cell, alCells_den r]
theorem alCells_names : ∀ c : AL, SV.namesL (alCells c) = []
 | .nil => rfl
 | .int k e r => by simp [alCells, SV.namesL, SV.names, alCells_names r]
 | .bool b r => by simp [alCells, SV.namesL, SV.names, alCells_names r]
 | .lst l r => by simp [alCells, SV.namesL, SV.names, alCells_names r]
 | .cel l i j r => by simp [alCells, SV.namesL, SV.names, alCells_names r]
theorem elemAt_names {ks : List CK} : ∀ (l : LE) (i : IE) (cs : List SV), elemAt pc ks l i = .el cs → SV.namesL cs = [] := by
  intro l
  induction l using LE.ind with
  | cat a b ha hb =>
    intro i cs h
    simp only [elemAt] at h
    split at h
    · exact hb _ _ h
    · exact ha _ _ h
    · cases h
  | one c => intro i cs h; simp only [elemAt] at h; cases h; exact alCells_names c
  | rep c n => intro i cs h; simp only [elemAt] at h; cases h; exact alCells_names c
  | set a j c ha =>
    intro i cs h
    simp only [elemAt] at h
    split at h
    · split at h
      · cases h; exact alCells_names c
      · cases h
    · split at h
      · split at h
        · split at h
          · cases h; exact alCells_names c
          · cases h
        · exact ha _ _ h
        · cases h
      · cases h
  | take a k ha => intro i cs h; simp only [elemAt] at h; exact ha _ _ h
  | drop a k ha =>
    intro i cs h
    simp only [elemAt] at h
    split at h
    · exact ha _ _ h
    · cases h
  | _ => intro i cs h; simp only [elemAt] at h; cases h; exact atomsAt_names _ _ _ _
theorem elemAt_den (hρ : ρ.Ok) (hp : Holds ρ pc) {ks : List CK} : ∀ (l : LE) (i : IE) (cs : List SV) (e : List Value), elemAt pc ks l i = .el cs → 0 ≤ i.den ρ → (l.den ρ)[(i.den ρ).toNat]? = some e → conf ks e = true → SV.denL ρ cs = e := by
  have base : ∀ (l : LE) (i : IE) (cs : List SV) (e : List Value), ER.el (atomsAt l i ks 0) = .el cs → (l.den ρ)[(i.den ρ).toNat]? = some e → conf ks e = true → SV.denL ρ cs = e := by
    intro l i cs e h he hc
    cases h
    have := atomsAt_den (ρ := ρ) l i ks 0 e (by simpa using hc) (by simp [List.getD, he])
    simpa using this
  intro l
  induction l using LE.ind with
  | cat a b ha hb =>
    intro i cs e h h0 he hc
    simp only [elemAt] at h
    simp only [LE.den] at he
    split at h
    · rename_i hd
      have hle := dec_le hρ hp hd
      rw [lenE_den hρ hp] at hle
      have hs : (subE i (lenE pc a)).den ρ = i.den ρ - ((a.den ρ).length : Int) := by rw [subE_den, lenE_den hρ hp]
      refine hb _ _ e h (by rw [hs]; omega) ?_ hc
      rw [hs, List.getElem?_append_right (by omega)] at *
      rw [show (i.den ρ - ((a.den ρ).length : Int)).toNat = (i.den ρ).toNat - (a.den ρ).length by omega]
      exact he
    · rename_i hd
      have hlt := dec_lt hρ hp hd
      rw [lenE_den hρ hp] at hlt
      refine ha _ _ e h h0 ?_ hc
      rw [List.getElem?_append_left (by omega)] at he
      exact he
    · cases h
  | one c =>
    intro i cs e h h0 he hc
    simp only [elemAt] at h
    cases h
    simp only [LE.den] at he
    have h00 : (i.den ρ).toNat = 0 := by
      have := (List.getElem?_eq_some_iff.1 he).1
      simp at this; omega
    rw [h00] at he
    simp at he
    rw [alCells_den, he]
  | rep c n =>
    intro i cs e h h0 he hc
    simp only [elemAt] at h
    cases h
    simp only [LE.den, List.getElem?_replicate] at he
    split at he
    · simp at he; rw [alCells_den, he]
    · cases he
  | set a j c ha =>
    intro i cs e h h0 he hc
    have hin : ∀ (hlt : (i.den ρ).toNat < (a.den ρ).length) (hij : i.den ρ = j.den ρ), SV.denL ρ (alCells c) = e := by
      intro hlt hij
      simp only [LE.den] at he
      rw [← hij, List.getElem?_set_self hlt] at he
      cases he
      exact alCells_den c
    simp only [elemAt] at h
    split at h
    · rename_i hb
      have hij := IE.beq_eq _ _ hb
      split at h
      · rename_i hd
        have hlt := dec_lt hρ hp hd
        rw [lenE_den hρ hp] at hlt
        cases h
        exact hin (by omega) (by rw [hij])
      · cases h
    · split at h
      · rename_i hj0
        have hj := dec_le hρ hp hj0
        simp only [IE.den] at hj
        split at h
        · rename_i hq
          have hij := dec_eq hρ hp hq
          split at h
          · rename_i hd
            have hlt := dec_lt hρ hp hd
            rw [lenE_den hρ hp] at hlt
            cases h
            exact hin (by omega) hij
          · cases h
        · rename_i hq
          have hij := dec_ne hρ hp hq
          refine ha _ _ e h h0 ?_ hc
          simp only [LE.den] at he
          rw [List.getElem?_set_ne (by omega)] at he
          exact he
        · cases h
      · cases h
  | take a k ha =>
    intro i cs e h h0 he hc
    simp only [elemAt] at h
    refine ha _ _ e h h0 ?_ hc
    simp only [LE.den, List.getElem?_take] at he
    split at he
    · exact he
    · cases he
  | drop a k ha =>
    intro i cs e h h0 he hc
    simp only [elemAt] at h
    split at h
    · rename_i hd
      have hk := dec_le hρ hp hd
      simp only [IE.den] at hk
      refine ha _ _ e h (by rw [addE_den]; omega) ?_ hc
      rw [addE_den]
      simp only [LE.den, List.getElem?_drop] at he
      rw [show (i.den ρ + k.den ρ).toNat = (k.den ρ).toNat + (i.den ρ).toNat by omega]
      exact he
    · cases h
  | _ => intro i cs e h h0 he hc; simp only [elemAt] at h; exact base _ _ _ _ h he hc
theorem elemAt_length {ks : List CK} {cs : List SV} {e : List Value} (h : SV.denL ρ cs = e) (hc : conf ks e = true) : cs.length = ks.length := by
  rw [← conf_length hc, ← h]
  clear h
  induction cs with
  | nil => rfl
  | cons c cs ih => simp [SV.denL, ih]
theorem inK_in (hρ : ρ.Ok) (hp : Holds ρ pc) {k : IntKind} {e : IE} (h : inK pc k e = true) : kmin k ≤ e.den ρ ∧ e.den ρ ≤ kmax k := by
 unfold inK at h
 split at h
 ·rename_i h1
  have hr := rng_in hρ hp e
  obtain ⟨lo, hi⟩ := hr
  generalize rng pc e = r at *
  obtain ⟨a, b⟩ := r
  cases a <;> cases b <;> simp [oin] at h1
  rename_i a b
  rw [ileb_iff, ileb_iff] at h1
  have := lo a rfl
  have := hi b rfl
  exact ⟨by omega, by omega⟩
 ·split at h
  ·rename_i h1
   split at h
   ·rename_i h2
    exact ⟨dec_le hρ hp h1, dec_le hρ hp h2⟩
   ·cases h
  ·cases h
theorem conf1_of_int {k : IntKind} {n : Int} (h : kmin k ≤ n ∧ n ≤ kmax k) : conf1 (.int k) (.int k n) = true := by
 have := (keq_iff k k).2 rfl
 simp [conf1, this, (ileb_iff _ _).2 h.1, (ileb_iff _ _).2 h.2]
theorem conf_byte {n : Int} (h : kmin .u8 ≤ n ∧ n ≤ kmax .u8) : conf byteK [.int .u8 n] = true := by
 simp [conf, byteK, conf1_of_int h]
theorem strV_typed (v : Value) : Typed byteK (strV v) := by
 intro e he
 cases v <;> simp [strV] at he
 obtain ⟨b, _, rfl⟩ := he
 refine conf_byte ⟨by simp [kmin], ?_⟩
 have := b.toNat_lt
 simp only [kmax]; omega
theorem typedB_ok (hρ : ρ.Ok) (hp : Holds ρ pc) {roms : List (Nat × (Nat × List CK))} (hr : ∀ r esz ks, lk roms r = some (esz, ks) → Typed ks (ρ.z.rl r)) : ∀ l : LE, typedB roms pc l = true → Typed byteK (l.den ρ) := by
  intro l
  induction l using LE.ind with
  | nil => intro h; simp only [LE.den]; exact .nil _
  | var n => intro h; simp only [LE.den]; exact hρ.lodd n h
  | rom r =>
    intro h
    simp only [LE.den]
    simp only [typedB] at h
    split at h
    · rename_i esz ks hl
      rw [← isByteK_eq h]
      exact hr r esz ks hl
    · cases h
  | cat a b ha hb =>
    intro h
    simp only [typedB] at h
    split at h
    · rename_i h1
      simp only [LE.den]; exact (ha h1).app (hb h)
    · cases h
  | one c =>
    intro h
    unfold typedB at h
    split at h
    all_goals first
      | (rename_i hq; cases hq; done)
      | (rename_i e hq; cases hq; simp only [LE.den, AL.den, List.map_cons, List.map_nil, AV.cell]; exact .one (conf_byte (inK_in hρ hp h)))
      | (cases h; done)
      | skip
    all_goals (rename_i hq; cases hq)
  | set a i c ha =>
    intro h
    unfold typedB at h
    split at h
    all_goals first
      | (cases h; done)
      | (rename_i hq; cases hq; split at h; rename_i h1; simp only [LE.den, AL.den, List.map_cons, List.map_nil, AV.cell]; exact (ha h).set _ (conf_byte (inK_in hρ hp h1)); cases h)
      | (rename_i hq; cases hq)
  | take a k ha => intro h; simp only [LE.den]; exact (ha h).take _
  | drop a k ha => intro h; simp only [LE.den]; exact (ha h).drop _
  | rep c n =>
    intro h
    unfold typedB at h
    split at h
    all_goals first
      | (cases h; done)
      | (rename_i hq; cases hq; simp only [LE.den, AL.den, List.map_cons, List.map_nil, AV.cell]; exact .rep _ (conf_byte (inK_in hρ hp h)))
      | (rename_i hq; cases hq)
  | str l i j => intro h; simp only [LE.den]; exact strV_typed _
  | fn n a => intro h; simp only [LE.den]; exact hρ.fodd n _ h
theorem strL_den : ∀ l : List IE, (strL l).den ρ = (l.map (IE.den ρ)).map fun n => [.int .u8 n]
 | [] => by simp [strL, LE.den]
 | [e] => by simp [strL, LE.den, AL.den, AV.cell]
 | e :: f :: l => by
  have := strL_den (f :: l)
  simp only [strL, LE.den, AL.den, List.map_cons, List.map_nil, AV.cell] at this ⊢
  rw [this]; rfl
theorem byteL_ints (l : List Int) : byteL (l.map fun n => [.int .u8 n]) = bytesOf l := by
 unfold byteL
 rw [List.map_map]
 congr 1
 simp [Function.comp_def, intV]
theorem strL_byteL (l : List IE) : byteL ((strL l).den ρ) = bytesOf (l.map (IE.den ρ)) := by rw [strL_den, byteL_ints]
theorem allK_ok (hρ : ρ.Ok) (hp : Holds ρ pc) : ∀ l : List IE, allK pc l = true → Typed byteK ((strL l).den ρ)
 | [], h => by simp only [strL, LE.den]; exact .nil _
 | [e], h => by
  simp only [allK] at h
  split at h
  ·rename_i h1
   simp only [strL, LE.den, AL.den, List.map_cons, List.map_nil, AV.cell]
   exact .one (conf_byte (inK_in hρ hp h1))
  ·cases h
 | e :: f :: l, h => by
  have h' : inK pc .u8 e = true ∧ allK pc (f :: l) = true := by
   rw [allK] at h
   split at h
   ·exact ⟨‹_›, h⟩
   ·cases h
  have := allK_ok hρ hp (f :: l) h'.2
  have e1 : (strL (e :: f :: l)).den ρ = [[.int .u8 (e.den ρ)]] ++ (strL (f :: l)).den ρ := by
   simp only [strL, LE.den, AL.den, List.map_cons, List.map_nil, AV.cell]
  rw [e1]
  exact (Typed.one (conf_byte (inK_in hρ hp h'.1))).app this
theorem toAL_ok (hρ : ρ.Ok) (hp : Holds ρ pc) {roms : List (Nat × (Nat × List CK))} (hr : ∀ r esz ks, lk roms r = some (esz, ks) → Typed ks (ρ.z.rl r)) : ∀ (ks : List CK) (vs : List SV) (a : AL), toAL roms pc ks vs = some a →
    (a.den ρ).map AV.cell = SV.denL ρ vs ∧ conf ks (SV.denL ρ vs) = true := by
  intro ks
  induction ks with
  | nil =>
    intro vs a h
    cases vs with
    | nil => simp only [toAL, Option.some.injEq] at h; subst h; exact ⟨by simp [AL.den, SV.denL], rfl⟩
    | cons v vs => simp [toAL] at h
  | cons k ks ih =>
    intro vs a h
    unfold toAL at h
    split at h
    · rename_i hq; cases hq
    · rename_i k' ks' j e vs' hq
      cases hq
      split at h
      · rename_i hk
        have hk' := (keq_iff _ _).1 hk
        subst hk'
        split at h
        · rename_i h1
          split at h
          · rename_i r hr1
            cases h
            obtain ⟨q1, q2⟩ := ih _ _ hr1
            refine ⟨by simp [AL.den, SV.denL, SV.den, AV.cell, q1], ?_⟩
            simp [SV.denL, SV.den, conf, conf1_of_int (inK_in hρ hp h1), q2]
          · cases h
        · cases h
      · cases h
    · rename_i ks' b vs' hq
      cases hq
      split at h
      · rename_i r hr1
        cases h
        obtain ⟨q1, q2⟩ := ih _ _ hr1
        exact ⟨by simp [AL.den, SV.denL, SV.den, AV.cell, q1], by simp [SV.denL, SV.den, conf, conf1, q2]⟩
      · cases h
    · rename_i ks' l vs' hq
      cases hq
      split at h
      · split at h
        · rename_i r hr1
          cases h
          obtain ⟨q1, q2⟩ := ih _ _ hr1
          exact ⟨by simp [AL.den, SV.denL, SV.den, AV.cell, q1], by simp [SV.denL, SV.den, conf, conf1, q2]⟩
        · cases h
      · cases h
    · rename_i ks' bs vs' hq
      cases hq
      split at h
      · split at h
        · rename_i r hr1
          cases h
          obtain ⟨q1, q2⟩ := ih _ _ hr1
          exact ⟨by simp [AL.den, SV.denL, SV.den, AV.cell, q1, strL_byteL], by simp [SV.denL, SV.den, conf, conf1, q2]⟩
        · cases h
      · cases h
    · cases h
theorem setE_den (l : LE) (i : IE) (c : AL) : (setE l i c).den ρ = (l.den ρ).set (i.den ρ).toNat ((c.den ρ).map AV.cell) := by
 unfold setE
 split
 ·split
  ·rename_i h
   rw [IE.beq_eq _ _ h]
   simp only [LE.den, List.set_set]
  ·rfl
 ·rfl
theorem lenS_den : ∀ (l : LE), (lenS l).den ρ = ((l.den ρ).length : Int)
 | .nil => by simp [lenS, IE.den, LE.den]
 | .one _ => by simp [lenS, IE.den, LE.den]
 | .cat a b => by simp [lenS, addE_den, LE.den, lenS_den a, lenS_den b]
 | .set a _ _ => by simp [lenS, LE.den, lenS_den a]
 | .var _ => by simp [lenS, IE.den, lenV]
 | .rom _ => by simp [lenS, IE.den, lenV]
 | .take _ _ => by simp [lenS, IE.den, lenV]
 | .drop _ _ => by simp [lenS, IE.den, lenV]
 | .rep _ _ => by simp [lenS, IE.den, lenV]
 | .str _ _ _ => by simp [lenS, IE.den, lenV]
 | .fn _ _ => by simp [lenS, IE.den, lenV]
theorem dropE_den (c : LE) (e : IE) : (dropE c e).den ρ = (c.den ρ).drop (e.den ρ).toNat := by
 unfold dropE
 split
 ·simp [IE.den]
 ·split
  ·split
   ·rename_i a b h
    have h1 := congrArg (IE.den ρ) (IE.beq_eq _ _ h)
    rw [lenS_den] at h1
    simp only [LE.den]
    rw [← h1, Int.toNat_natCast, List.drop_left]
   ·split
    ·split
     ·rename_i a _ _ b1 b2 h
      have h1 := congrArg (IE.den ρ) (IE.beq_eq _ _ h)
      rw [addE_den, lenS_den, lenS_den] at h1
      simp only [LE.den]
      rw [← List.append_assoc, ← h1, show ((((a.den ρ).length : Int) + ((b1.den ρ).length : Int)).toNat) = (a.den ρ ++ b1.den ρ).length by rw [List.length_append]; omega, List.drop_left]
     ·rfl
    ·rfl
  ·rfl
theorem zeroE_den (e : IE) : (zeroE e).den ρ = e.den ρ := by
 unfold zeroE
 split
 ·simp [IE.den]
 ·rfl
theorem takeE_den (c : LE) (n : IE) : (takeE c n).den ρ = (c.den ρ).take (n.den ρ).toNat := by
 unfold takeE
 split
 ·split
  ·rename_i a b h
   have h1 := congrArg (IE.den ρ) (IE.beq_eq _ _ h)
   rw [lenS_den, zeroE_den] at h1
   simp only [LE.den]
   rw [List.take_append_of_le_length (by omega), List.take_of_length_le (by omega)]
  ·rfl
 ·rfl
theorem winL_den {c : LE} {tot off len : IE} (ht : tot.den ρ = ((c.den ρ).length : Int)) : (winL c tot off len).den ρ = ((c.den ρ).drop (off.den ρ).toNat).take (len.den ρ).toNat := by
 unfold winL
 split
 ·rename_i h
  have := congrArg (IE.den ρ) (IE.beq_eq _ _ h)
  rw [subE_den, ht] at this
  rw [dropE_den, List.take_of_length_le]
  simp only [List.length_drop]; omega
 ·rw [takeE_den, dropE_den]
theorem catE_den (a b : LE) : (catE a b).den ρ = a.den ρ ++ b.den ρ := by
 unfold catE
 split <;> simp [LE.den]
theorem mkLeq_den (a b : LE) : (mkLeq a b).den ρ = eqV (a.den ρ) (b.den ρ) := by
 unfold mkLeq
 split
 ·rename_i h; rw [LE.beq_eq _ _ h]; simp [BE.den, eqV]
 ·rfl
theorem rowsL_ok (hρ : ρ.Ok) (hp : Holds ρ pc) {roms : List (Nat × (Nat × List CK))} (hr : ∀ r esz ks, lk roms r = some (esz, ks) → Typed ks (ρ.z.rl r)) {ks : List CK} {sz : Nat} : ∀ (n : Nat) (cs : List SV) (l : LE), cs.length = n * sz → rowsL roms pc ks sz n cs = some l →
    (l.den ρ).length = n ∧ (l.den ρ).flatten = SV.denL ρ cs ∧ Typed ks (l.den ρ)
  | 0, cs, l, hl, h => by
    simp only [rowsL, Option.some.injEq] at h
    subst h
    have : cs = [] := List.eq_nil_of_length_eq_zero (by simpa using hl)
    subst this
    exact ⟨rfl, rfl, .nil _⟩
  | n + 1, cs, l, hl, h => by
    simp only [rowsL] at h
    split at h
    · rename_i a ha
      split at h
      · rename_i m hm
        cases h
        obtain ⟨q1, q2⟩ := toAL_ok hρ hp hr _ _ _ ha
        obtain ⟨r1, r2, r3⟩ := rowsL_ok hρ hp hr n (cs.drop sz) m (by rw [List.length_drop, hl, Nat.add_mul]; omega) hm
        rw [catE_den]
        simp only [LE.den, q1]
        refine ⟨by simp [r1], ?_, (Typed.one q2).app r3⟩
        rw [List.flatten_append, r2]
        simp only [List.flatten_cons, List.flatten_nil, List.append_nil]
        have : ∀ (x y : List SV), SV.denL ρ (x ++ y) = SV.denL ρ x ++ SV.denL ρ y := by
          intro x y
          induction x with
          | nil => simp [SV.denL]
          | cons v x ih => simp [SV.denL, ih]
        rw [← this, List.take_append_drop]
      · cases h
    · cases h
end
end Go.Proofs.Ythenenacmiiphaa.Sx
namespace Go.Proofs.Ythenenacmiiphaa.Sx
open Go
noncomputable def Rho.sb (ρ : Rho) (S : Sub) : Rho :=
  { i := fun k n => match lkI S.i k n with
      | some e => e.den ρ
      | none => ρ.i k n
    b := fun n => match lk S.b n with
      | some e => e.den ρ
      | none => ρ.b n
    l := fun n => match lk S.l n with
      | some e => e.den ρ
      | none => ρ.l n
    v := fun n => match lk S.v n with
      | some v => v.den ρ
      | none => ρ.v n
    a := fun n => ρ.a (nmA S.a n)
    z := { ρ.z with rl := fun r => match lk S.r r with
      | some l => l.den ρ
      | none => ρ.z.rl r } }
theorem byte_back {n : Int} (h0 : 0 ≤ n) (h1 : n ≤ 255) : ((UInt8.ofNat n.toNat).toNat : Int) = n := by
 rw [UInt8.toNat_ofNat']
 omega
theorem conf_byte_inv {e : List Value} (h : conf byteK e = true) : ∃ n, e = [.int .u8 n] ∧ 0 ≤ n ∧ n ≤ 255 := by
 obtain ⟨v, vs, rfl, h1, h2⟩ := conf_cons h
 cases vs with
 | nil =>
  cases v <;> simp [conf1, keq_iff, ileb_iff] at h1
  obtain ⟨rfl, a1, a2⟩ := h1
  exact ⟨_, rfl, a1, a2⟩
 | cons u us => simp [conf] at h2
theorem strV_byteL : ∀ {l : LV}, Typed byteK l → strV (.string (byteL l)) = l := by
  intro l h
  have hm : ∀ (m : LV), Typed byteK m → m.map (fun c => [Value.int .u8 (((UInt8.ofNat (intV (c.headD (.bool false))).toNat).toNat : Nat) : Int)]) = m := by
    intro m hm
    induction m with
    | nil => rfl
    | cons e m ih =>
      obtain ⟨n, rfl, h0, h1⟩ := conf_byte_inv (hm e (List.mem_cons_self ..))
      have := ih (fun x hx => hm x (List.mem_cons_of_mem _ hx))
      have hb : ((UInt8.ofNat n.toNat).toNat : Int) = n := byte_back h0 h1
      rw [List.map_cons, this]
      simp only [List.headD_cons, intV, hb]
  unfold strV byteL bytesOf
  simpa [List.map_map, Function.comp_def] using hm l h
theorem nthL_den {ρ : Rho} : ∀ (l : LE) (n : Nat) (c : AL), nthL l n = some c → (l.den ρ)[n]? = some ((c.den ρ).map AV.cell)
 | .one c, 0, c', h => by
  simp only [nthL, Option.some.injEq] at h
  subst h; simp only [LE.den]; rfl
 | .one c, n + 1, c', h => by simp [nthL] at h
 | .cat (.one c) r, 0, c', h => by
  simp only [nthL, Option.some.injEq] at h
  subst h; simp only [LE.den]; rfl
 | .cat (.one c) r, n + 1, c', h => by
  simp only [nthL] at h
  have := nthL_den (ρ := ρ) r n c' h
  simp only [LE.den]
  exact this
 | .nil, n, c', h => by simp [nthL] at h
 | .var _, n, c', h => by simp [nthL] at h
 | .rom _, n, c', h => by simp [nthL] at h
 | .set _ _ _, n, c', h => by simp [nthL] at h
 | .take _ _, n, c', h => by simp [nthL] at h
 | .drop _ _, n, c', h => by simp [nthL] at h
 | .rep _ _, n, c', h => by simp [nthL] at h
 | .str _ _ _, n, c', h => by simp [nthL] at h
 | .fn _ _, n, c', h => by simp [nthL] at h
 | .cat .nil _, n, c', h => by simp [nthL] at h
 | .cat (.var _) _, n, c', h => by simp [nthL] at h
 | .cat (.rom _) _, n, c', h => by simp [nthL] at h
 | .cat (.cat _ _) _, n, c', h => by simp [nthL] at h
 | .cat (.set _ _ _) _, n, c', h => by simp [nthL] at h
 | .cat (.take _ _) _, n, c', h => by simp [nthL] at h
 | .cat (.drop _ _) _, n, c', h => by simp [nthL] at h
 | .cat (.rep _ _) _, n, c', h => by simp [nthL] at h
 | .cat (.str _ _ _) _, n, c', h => by simp [nthL] at h
 | .cat (.fn _ _) _, n, c', h => by simp [nthL] at h
theorem intA_den {ρ : Rho} {k : IntKind} : ∀ (c : AL) (j : Nat) (z : Int), intA k c j = some z → ((c.den ρ).map AV.cell)[j]? = some (.int k z) ∧ kmin k ≤ z ∧ z ≤ kmax k
 | .int i (.lit y) r, 0, z, h => by
  simp only [intA] at h
  split at h
  ·rename_i h1
   split at h
   ·rename_i h2
    split at h
    ·rename_i h3
     simp only [Option.some.injEq] at h
     subst h
     have e := (keq_iff _ _).1 h1
     subst e
     exact ⟨by simp only [AL.den, IE.den]; rfl, (ileb_iff _ _).1 h2, (ileb_iff _ _).1 h3⟩
    ·cases h
   ·cases h
  ·cases h
 | .int i x r, n + 1, z, h => by
  have h : intA k r n = some z := by cases x <;> simpa [intA] using h
  have := intA_den (ρ := ρ) r n z h
  simp only [AL.den]
  exact this
 | .bool b r, n + 1, z, h => by
  simp only [intA] at h
  have := intA_den (ρ := ρ) r n z h
  simp only [AL.den]
  exact this
 | .lst l r, n + 1, z, h => by
  simp only [intA] at h
  have := intA_den (ρ := ρ) r n z h
  simp only [AL.den]
  exact this
 | .nil, n, z, h => by simp [intA] at h
 | .bool b r, 0, z, h => by simp [intA] at h
 | .lst l r, 0, z, h => by simp [intA] at h
 | .cel l i j r, n, z, h => by simp [intA] at h
 | .int i (.var _ _) r, 0, z, h => by simp [intA] at h
 | .int i (.add _ _) r, 0, z, h => by simp [intA] at h
 | .int i (.sub _ _) r, 0, z, h => by simp [intA] at h
 | .int i (.mul _ _) r, 0, z, h => by simp [intA] at h
 | .int i (.wrap _ _) r, 0, z, h => by simp [intA] at h
 | .int i (.bin _ _ _ _) r, 0, z, h => by simp [intA] at h
 | .int i (.cel _ _ _ _) r, 0, z, h => by simp [intA] at h
 | .int i (.len _) r, 0, z, h => by simp [intA] at h
 | .int i (.rcap _) r, 0, z, h => by simp [intA] at h
 | .int i (.fn _ _ _) r, 0, z, h => by simp [intA] at h
 | .int i (.ite _ _ _) r, 0, z, h => by simp [intA] at h
theorem ifb {a b : Bool} (h : (if a then b else false) = true) : a = true ∧ b = true := by
 cases a <;> simp_all
theorem byteA_typed {ρ : Rho} {c : AL} (h : byteA c = true) : Typed byteK [(c.den ρ).map AV.cell] := by
 unfold byteA at h
 split at h
 ·rename_i k z
  obtain ⟨h1, h2⟩ := ifb h
  obtain ⟨h3, h4⟩ := ifb h2
  have e := (keq_iff _ _).1 h1
  subst e
  refine Typed.one ?_
  have k0 : ileb (kmin .u8) z = true := h3
  have k1 : ileb z (kmax .u8) = true := h4
  simp only [AL.den, IE.den, AV.cell, List.map_cons, List.map_nil]
  show conf [.int .u8] [Value.int .u8 z] = true
  simp [conf, conf1, k0, k1, keq, kno]
 ·cases h
theorem litB_typed {ρ : Rho} (hρ : ρ.Ok) : ∀ (l : LE), litB l = true → Typed byteK (l.den ρ)
 | .nil, h => by simp only [LE.den]; exact Typed.nil _
 | .one c, h => by simp only [litB] at h; simp only [LE.den]; exact byteA_typed h
 | .cat a b, h => by
  simp only [litB] at h
  obtain ⟨h1, h2⟩ := ifb h
  have t1 := litB_typed hρ a h1
  have t2 := litB_typed hρ b h2
  simp only [LE.den]
  exact Typed.app t1 t2
 | .var n, h => by simp only [litB] at h; simp only [LE.den]; exact hρ.lodd n h
 | .fn n c, h => by simp only [litB] at h; simp only [LE.den]; exact hρ.fodd n _ h
 | .str a i j, h => by simp only [LE.den]; exact strV_typed _
 | .rom _, h => by simp [litB] at h
 | .set _ _ _, h => by simp [litB] at h
 | .take _ _, h => by simp [litB] at h
 | .drop _ _, h => by simp [litB] at h
 | .rep _ _, h => by simp [litB] at h
theorem lstA_den {ρ : Rho} (hρ : ρ.Ok) : ∀ (c : AL) (j : Nat) (l : LE), lstA c j = some l → ((c.den ρ).map AV.cell)[j]? = some (.string (byteL (l.den ρ))) ∧ Typed byteK (l.den ρ)
 | .lst m r, 0, l, h => by
  simp only [lstA] at h
  split at h
  ·rename_i h1
   simp only [Option.some.injEq] at h
   subst h
   exact ⟨by simp only [AL.den]; rfl, litB_typed hρ _ h1⟩
  ·cases h
 | .int i x r, n + 1, l, h => by
  simp only [lstA] at h
  have := lstA_den hρ r n l h
  simp only [AL.den]
  exact this
 | .bool b r, n + 1, l, h => by
  simp only [lstA] at h
  have := lstA_den hρ r n l h
  simp only [AL.den]
  exact this
 | .lst m r, n + 1, l, h => by
  simp only [lstA] at h
  have := lstA_den hρ r n l h
  simp only [AL.den]
  exact this
 | .nil, n, l, h => by simp [lstA] at h
 | .int _ _ _, 0, l, h => by simp [lstA] at h
 | .bool _ _, 0, l, h => by simp [lstA] at h
 | .cel _ _ _ _, n, l, h => by simp [lstA] at h
theorem celV_some {l : LV} {n j : Nat} {e : List Value} {v : Value} (h : l[n]? = some e) (hv : e[j]? = some v) : celV l (n : Int) j = v := by
 have e1 : l.getD n [] = e := by rw [List.getD_eq_getElem?_getD, h]; rfl
 unfold celV
 rw [Int.toNat_natCast, e1, List.getD_eq_getElem?_getD, hv]; rfl
theorem celK_den {ρ : Rho} (k : IntKind) (l : LE) (i : IE) (j : Nat) : (celK k l i j).den ρ = (IE.cel k l i j).den ρ := by
 unfold celK
 split
 ·rename_i n
  split
  ·rename_i c hc
   split
   ·rename_i z hz
    obtain ⟨h1, h2, h3⟩ := intA_den (ρ := ρ) c j z hz
    have := celV_some (nthL_den (ρ := ρ) l n c hc) h1
    simp only [IE.den]
    rw [show (Int.ofNat n) = (n : Int) from rfl, this]
    show z = clampK k z
    unfold clampK
    exact (if_pos (⟨h2, h3⟩ : kmin k ≤ z ∧ z ≤ kmax k)).symm
   ·rfl
  ·rfl
 ·rfl
theorem strK_den {ρ : Rho} (hρ : ρ.Ok) (l : LE) (i : IE) (j : Nat) : (strK l i j).den ρ = (LE.str l i j).den ρ := by
 unfold strK
 split
 ·rename_i n
  split
  ·rename_i c hc
   split
   ·rename_i m hm
    obtain ⟨h1, h2⟩ := lstA_den hρ c j m hm
    have := celV_some (nthL_den (ρ := ρ) l n c hc) h1
    simp only [LE.den, IE.den]
    rw [show (Int.ofNat n) = (n : Int) from rfl, this, strV_byteL h2]
   ·rfl
  ·rfl
 ·rfl
section
variable {ρ : Rho} {S : Sub} {pc : List BE}
mutual
theorem IE.sb_den (hρ : ρ.Ok) (hp : Holds ρ pc) : ∀ (e : IE), (e.sb pc S).den ρ = e.den (ρ.sb S)
 | .lit n => by simp only [IE.sb, IE.den]
 | .var k n => by
  simp only [IE.sb, IE.den, Rho.sb]
  cases lkI S.i k n <;> simp only [IE.den]
 | .add x y => by simp only [IE.sb, IE.den, IE.sb_den hρ hp x, IE.sb_den hρ hp y]
 | .sub x y => by simp only [IE.sb, IE.den, subE_den, IE.sb_den hρ hp x, IE.sb_den hρ hp y]
 | .mul x y => by simp only [IE.sb, IE.den, IE.sb_den hρ hp x, IE.sb_den hρ hp y]
 | .wrap k x => by simp only [IE.sb, IE.den, IE.sb_den hρ hp x]
 | .bin op k x y => by simp only [IE.sb, IE.den, IE.sb_den hρ hp x, IE.sb_den hρ hp y]
 | .cel k l i j => by simp only [IE.sb]; rw [celK_den]; simp only [IE.den, LE.sb_den hρ hp l, IE.sb_den hρ hp i]
 | .len l => by simp only [IE.sb, IE.den]; rw [lenE_den hρ hp, LE.sb_den hρ hp l]; rfl
 | .rcap r => by simp only [IE.sb, IE.den, Rho.sb]
 | .fn k n a => by simp only [IE.sb, IE.den, AL.sb_den hρ hp a]; rfl
 | .ite c x y => by simp only [IE.sb, IE.den, BE.sb_den hρ hp c, IE.sb_den hρ hp x, IE.sb_den hρ hp y]
theorem BE.sb_den (hρ : ρ.Ok) (hp : Holds ρ pc) : ∀ (e : BE), (e.sb pc S).den ρ = e.den (ρ.sb S)
 | .lit b => by simp only [BE.sb, BE.den]
 | .var n => by
  simp only [BE.sb, BE.den, Rho.sb]
  cases lk S.b n <;> simp only [BE.den]
 | .le x y => by simp only [BE.sb, BE.den, IE.sb_den hρ hp x, IE.sb_den hρ hp y]
 | .eq x y => by simp only [BE.sb, BE.den, IE.sb_den hρ hp x, IE.sb_den hρ hp y]
 | .not x => by simp only [BE.sb, mkNot_den, BE.den, BE.sb_den hρ hp x]
 | .and x y => by simp only [BE.sb, mkAnd_den, BE.den, BE.sb_den hρ hp x, BE.sb_den hρ hp y]
 | .iff x y => by simp only [BE.sb, BE.den, BE.sb_den hρ hp x, BE.sb_den hρ hp y]
 | .cel l i j => by simp only [BE.sb, BE.den, LE.sb_den hρ hp l, IE.sb_den hρ hp i]
 | .leq a b => by simp only [BE.sb, BE.den, LE.sb_den hρ hp a, LE.sb_den hρ hp b]
 | .rnil r => by simp only [BE.sb, BE.den, Rho.sb]
 | .fn n a => by simp only [BE.sb, BE.den, AL.sb_den hρ hp a]; rfl
theorem LE.sb_den (hρ : ρ.Ok) (hp : Holds ρ pc) : ∀ (e : LE), (e.sb pc S).den ρ = e.den (ρ.sb S)
 | .nil => by simp only [LE.sb, LE.den]
 | .var n => by
  simp only [LE.sb, LE.den, Rho.sb]
  cases lk S.l n <;> simp only [LE.den]
 | .rom r => by
  simp only [LE.sb, LE.den, Rho.sb]
  cases lk S.r r <;> simp only [LE.den]
 | .cat a b => by simp only [LE.sb, LE.den, LE.sb_den hρ hp a, LE.sb_den hρ hp b]
 | .one c => by simp only [LE.sb, LE.den, AL.sb_den hρ hp c]
 | .set a i c => by simp only [LE.sb, LE.den, LE.sb_den hρ hp a, IE.sb_den hρ hp i, AL.sb_den hρ hp c]
 | .take a i => by simp only [LE.sb, LE.den, LE.sb_den hρ hp a, IE.sb_den hρ hp i]
 | .drop a i => by simp only [LE.sb, LE.den, LE.sb_den hρ hp a, IE.sb_den hρ hp i]
 | .rep c n => by simp only [LE.sb, LE.den, AL.sb_den hρ hp c, IE.sb_den hρ hp n]
 | .str a i j => by simp only [LE.sb]; rw [strK_den hρ]; simp only [LE.den, LE.sb_den hρ hp a, IE.sb_den hρ hp i]
 | .fn n a => by simp only [LE.sb, LE.den, AL.sb_den hρ hp a]; rfl
theorem AL.sb_den (hρ : ρ.Ok) (hp : Holds ρ pc) : ∀ (e : AL), (e.sb pc S).den ρ = e.den (ρ.sb S)
 | .nil => by simp only [AL.sb, AL.den]
 | .int k e r => by simp only [AL.sb, AL.den, IE.sb_den hρ hp e, AL.sb_den hρ hp r]
 | .bool b r => by simp only [AL.sb, AL.den, BE.sb_den hρ hp b, AL.sb_den hρ hp r]
 | .lst l r => by simp only [AL.sb, AL.den, LE.sb_den hρ hp l, AL.sb_den hρ hp r]
 | .cel l i j r => by simp only [AL.sb, AL.den, LE.sb_den hρ hp l, IE.sb_den hρ hp i, AL.sb_den hρ hp r]
end
theorem sbPc_holds (hρ : ρ.Ok) (hp : Holds ρ pc) : ∀ (l : List BE), Holds ρ (sbPc pc S l) ↔ Holds (ρ.sb S) l
 | [] => ⟨(fun _ p h => by cases h), (fun _ p h => by cases h)⟩
 | p :: l => by
  have ih := sbPc_holds hρ hp l
  simp only [sbPc]
  constructor
  ·intro h
   exact (ih.1 h.tail).cons (by rw [← BE.sb_den hρ hp]; exact h.head)
  ·intro h
   exact (ih.2 h.tail).cons (by rw [BE.sb_den hρ hp]; exact h.head)
theorem subIs_den (hρ : ρ.Ok) (hp : Holds ρ pc) (l : List IE) : (subIs pc S l).map (IE.den ρ) = l.map (IE.den (ρ.sb S)) := by
  induction l with
  | nil => rfl
  | cons e l ih => simp [subIs, IE.sb_den hρ hp, ih]
theorem subFn_den (fn : Fn) : fnDen ρ (subFn S fn) = fnDen (ρ.sb S) fn := by
 cases fn <;> rfl
theorem subO_den (hρ : ρ.Ok) (hp : Holds ρ pc) (n : Nat) (c : Option IE) : capDen ρ n (subO pc S c) = capDen (ρ.sb S) n c := by
 cases c <;> simp [subO, capDen, IE.sb_den hρ hp]
mutual
theorem SV.sb_den (hρ : ρ.Ok) (hp : Holds ρ pc) : ∀ (v : SV), (v.sb pc S).den ρ = v.den (ρ.sb S)
 | .bool b => by simp [SV.sb, SV.den, BE.sb_den hρ hp]
 | .int k e => by simp [SV.sb, SV.den, IE.sb_den hρ hp]
 | .ptr n off => by simp [SV.sb, SV.den, Rho.sb]
 | .slice n off len cap => by simp [SV.sb, SV.den, Rho.sb]
 | .func fn f c => by simp [SV.sb, SV.den, subFn_den, SV.sbL_den hρ hp f, SV.sbL_den hρ hp c]
 | .iface t v => by simp [SV.sb, SV.den, SV.sb_den hρ hp v]
 | .agg cs => by simp [SV.sb, SV.den, SV.sbL_den hρ hp cs]
 | .tup vs => by simp [SV.sb, SV.den, SV.sbL_den hρ hp vs]
 | .opq n => by
  simp only [SV.sb, SV.den, Rho.sb]
  cases lk S.v n <;> simp [SV.den]
 | .const v => by simp [SV.sb, SV.den]
 | .str bs => by simp only [SV.sb, SV.den, subIs_den hρ hp]
 | .sl n cn sz off len => by simp [SV.sb, SV.den, Rho.sb]
 | .rom r off len cap => by simp only [SV.sb, SV.den, IE.sb_den hρ hp, subO_den hρ hp]; rfl
 | .rptr r i c => by simp only [SV.sb, SV.den, IE.sb_den hρ hp]; rfl
 | .sll n cn sz off len cap => by simp only [SV.sb, SV.den, IE.sb_den hρ hp, subO_den hρ hp]; rfl
 | .lptr n sz i c => by simp only [SV.sb, SV.den, IE.sb_den hρ hp]; rfl
 | .sle n cn sz off l => by simp only [SV.sb, SV.den, IE.sb_den hρ hp]; rfl
 | .map n => by simp only [SV.sb, SV.den]; rfl
 | .lstr l => by simp only [SV.sb, SV.den, LE.sb_den hρ hp]
 | .cel l i j => by simp only [SV.sb, SV.den, LE.sb_den hρ hp, IE.sb_den hρ hp]
theorem SV.sbL_den (hρ : ρ.Ok) (hp : Holds ρ pc) : ∀ (l : List SV), SV.denL ρ (SV.sbL pc S l) = SV.denL (ρ.sb S) l
 | [] => rfl
 | v :: l => by simp [SV.sbL, SV.denL, SV.sb_den hρ hp v, SV.sbL_den hρ hp l]
end
end
structure Base (ρ ρ' : Rho) : Prop where
 i : ∀ k n, n < 1000 → ρ'.i k n = ρ.i k n
 b : ∀ n, n < 1000 → ρ'.b n = ρ.b n
 l : ∀ n, n < 1000 → ρ'.l n = ρ.l n
 F : ρ'.z.F = ρ.z.F
 rl : ρ'.z.rl = ρ.z.rl
section
variable {ρ ρ' : Rho}
mutual
theorem IE.free_den (h : Base ρ ρ') : ∀ (e : IE), e.free = true → e.den ρ' = e.den ρ
 | .lit n, _ => by simp only [IE.den]
 | .var k n, f => by simp only [IE.den, h.i k n (by simpa [IE.free, Nat.blt_eq] using f)]
 | .add x y, f => by simp only [IE.den, IE.free_den h x (ifb f).1, IE.free_den h y (ifb f).2]
 | .sub x y, f => by simp only [IE.den, IE.free_den h x (ifb f).1, IE.free_den h y (ifb f).2]
 | .mul x y, f => by simp only [IE.den, IE.free_den h x (ifb f).1, IE.free_den h y (ifb f).2]
 | .wrap k x, f => by simp only [IE.den, IE.free_den h x f]
 | .bin op k x y, f => by simp only [IE.den, IE.free_den h x (ifb f).1, IE.free_den h y (ifb f).2]
 | .cel k l i j, f => by simp only [IE.den, LE.free_den h l (ifb f).1, IE.free_den h i (ifb f).2]
 | .len l, f => by simp only [IE.den, LE.free_den h l f]
 | .rcap r, f => by cases f
 | .fn k n a, f => by simp only [IE.den, AL.free_den h a f, h.F]
 | .ite c x y, f => by simp only [IE.den, BE.free_den h c (ifb f).1, IE.free_den h x (ifb (ifb f).2).1, IE.free_den h y (ifb (ifb f).2).2]
theorem BE.free_den (h : Base ρ ρ') : ∀ (e : BE), e.free = true → e.den ρ' = e.den ρ
 | .lit b, _ => by simp only [BE.den]
 | .var n, f => by simp only [BE.den, h.b n (by simpa [BE.free, Nat.blt_eq] using f)]
 | .le x y, f => by simp only [BE.den, IE.free_den h x (ifb f).1, IE.free_den h y (ifb f).2]
 | .eq x y, f => by simp only [BE.den, IE.free_den h x (ifb f).1, IE.free_den h y (ifb f).2]
 | .not x, f => by simp only [BE.den, BE.free_den h x f]
 | .and x y, f => by simp only [BE.den, BE.free_den h x (ifb f).1, BE.free_den h y (ifb f).2]
 | .iff x y, f => by simp only [BE.den, BE.free_den h x (ifb f).1, BE.free_den h y (ifb f).2]
 | .cel l i j, f => by simp only [BE.den, LE.free_den h l (ifb f).1, IE.free_den h i (ifb f).2]
 | .leq a b, f => by simp only [BE.den, LE.free_den h a (ifb f).1, LE.free_den h b (ifb f).2]
 | .rnil r, f => by cases f
 | .fn n a, f => by simp only [BE.den, AL.free_den h a f, h.F]
theorem LE.free_den (h : Base ρ ρ') : ∀ (e : LE), e.free = true → e.den ρ' = e.den ρ
 | .nil, _ => by simp only [LE.den]
 | .var n, f => by simp only [LE.den, h.l n (by simpa [LE.free, Nat.blt_eq] using f)]
 | .rom r, _ => by simp only [LE.den, h.rl]
 | .cat a b, f => by simp only [LE.den, LE.free_den h a (ifb f).1, LE.free_den h b (ifb f).2]
 | .one c, f => by simp only [LE.den, AL.free_den h c f]
 | .set a i c, f => by simp only [LE.den, LE.free_den h a (ifb f).1, IE.free_den h i (ifb (ifb f).2).1, AL.free_den h c (ifb (ifb f).2).2]
 | .take a i, f => by simp only [LE.den, LE.free_den h a (ifb f).1, IE.free_den h i (ifb f).2]
 | .drop a i, f => by simp only [LE.den, LE.free_den h a (ifb f).1, IE.free_den h i (ifb f).2]
 | .rep c n, f => by simp only [LE.den, AL.free_den h c (ifb f).1, IE.free_den h n (ifb f).2]
 | .str a i j, f => by simp only [LE.den, LE.free_den h a (ifb f).1, IE.free_den h i (ifb f).2]
 | .fn n a, f => by simp only [LE.den, AL.free_den h a f, h.F]
theorem AL.free_den (h : Base ρ ρ') : ∀ (e : AL), e.free = true → e.den ρ' = e.den ρ
 | .nil, _ => by simp only [AL.den]
 | .int k e r, f => by simp only [AL.den, IE.free_den h e (ifb f).1, AL.free_den h r (ifb f).2]
 | .bool b r, f => by simp only [AL.den, BE.free_den h b (ifb f).1, AL.free_den h r (ifb f).2]
 | .lst l r, f => by simp only [AL.den, LE.free_den h l (ifb f).1, AL.free_den h r (ifb f).2]
 | .cel l i j r, f => by simp only [AL.den, LE.free_den h l (ifb f).1, IE.free_den h i (ifb (ifb f).2).1, AL.free_den h r (ifb (ifb f).2).2]
end
theorem freeL_holds (h : Base ρ ρ') : ∀ l : List BE, freeL l = true → (Holds ρ' l ↔ Holds ρ l)
 | [], _ => ⟨(fun _ p hp => by cases hp), (fun _ p hp => by cases hp)⟩
 | p :: l, f => by
  have ih := freeL_holds h l (ifb f).2
  have e := BE.free_den h p (ifb f).1
  exact ⟨fun hh => (ih.1 hh.tail).cons (by rw [← e]; exact hh.head), fun hh => (ih.2 hh.tail).cons (by rw [e]; exact hh.head)⟩
end
def PostOk (F : Fns) (c : Ctr) : Prop := ∀ ρ : Rho, ρ.z.F = F → Holds ρ c.pre → Holds ρ c.post
def MPostOk (F : Fns) (c : Mtr) : Prop := ∀ ρ : Rho, ρ.z.F = F → Holds ρ c.pre → Holds ρ c.post
def PostsOk (o : Orc) : Prop := (∀ c ∈ o.ctr, PostOk o.F c) ∧ ∀ c ∈ o.mem, MPostOk o.F c
structure Gd (F : Fns) (ρ : Rho) : Prop where
 ok : ρ.Ok
 F : ρ.z.F = F
theorem preOk_ok {ρ : Rho} (hρ : ρ.Ok) {pc : List BE} (hp : Holds ρ pc) {S : Sub} : ∀ l : List BE, preOk pc S l = .ok → Holds (ρ.sb S) l
 | [], _ => fun p h => by cases h
 | p :: l, h => by
  simp only [preOk] at h
  split at h
  ·rename_i hd
   exact (preOk_ok hρ hp l h).cons (by rw [← BE.sb_den hρ hp]; exact dec_den hρ hp _ _ hd)
  ·cases h
  ·cases h
theorem useC_postA {ρ : Rho} {F : Fns} (g : Gd F ρ) {pc : List BE} (hp : Holds ρ pc) {nx : Nat} {c : Ctr} (hc : PostOk F c) {S : Sub} (h5 : preOk pc S c.pre = .ok) {A : List (Nat × Nat)} : Holds ρ (sbPc pc { S with a := A } c.post) := by
 rw [sbPc_holds g.ok hp]
 have hpre := preOk_ok g.ok hp c.pre h5
 have e : ∀ l : List BE, Holds (ρ.sb { S with a := A }) l ↔ Holds (ρ.sb S) l := by
  intro l
  have : Same (ρ.sb S) (ρ.sb { S with a := A }) := ⟨rfl, rfl, rfl, rfl, rfl⟩
  exact this.holds
 exact hc _ g.F ((e _).2 hpre)
theorem useC_post {ρ : Rho} {F : Fns} (g : Gd F ρ) {roms : Roms} {pc : List BE} (hp : Holds ρ pc) {h : SHeap} {nx : Nat} {c : Ctr} (hc : PostOk F c) {args : List SV} {u : Used} (hu : useC roms pc h nx c args = .use u) : Holds ρ u.post := by
 unfold useC at hu
 generalize match1 roms pc h c.roms c.pat args ⟨Sub.nil, []⟩ = M at hu
 simp only [] at hu
 split at hu
 ·split at hu
  ·split at hu
   ·split at hu
    ·split at hu
     ·split at hu
      ·rename_i h1 h2 h3 h4 h6 h5
       cases hu
       exact useC_postA (nx := nx) g hp hc h5
      ·cases hu
      ·cases hu
     ·cases hu
    ·cases hu
   ·cases hu
  ·cases hu
 ·cases hu
theorem findC_use {roms : Roms} {pc : List BE} {h : SHeap} {nx f : Nat} {args : List SV} : ∀ {l : List Ctr} {u : Used}, findC roms pc h nx f args l = .use u → ∃ c ∈ l, c.f = f ∧ useC roms pc h nx c args = .use u
 | [], u, hu => by cases hu
 | c :: l, u, hu => by
  simp only [findC] at hu
  split at hu
  ·rename_i hf
   split at hu
   ·cases hu
   ·split at hu
    ·obtain ⟨d, hd, h1, h2⟩ := findC_use hu
     exact ⟨d, List.mem_cons_of_mem _ hd, h1, h2⟩
    ·exact ⟨c, List.mem_cons_self .., by simpa using hf, hu⟩
  ·obtain ⟨d, hd, h1, h2⟩ := findC_use hu
   exact ⟨d, List.mem_cons_of_mem _ hd, h1, h2⟩
theorem findM_use {roms : Roms} {pc : List BE} {h : SHeap} {nx f : Nat} {args : List SV} : ∀ {l : List Mtr} {u : UsedX}, findM roms pc h nx f args l = .use u → ∃ c ∈ l, c.f = f ∧ useM roms pc h nx c args = .use u
 | [], u, hu => by cases hu
 | c :: l, u, hu => by
  simp only [findM] at hu
  split at hu
  ·rename_i hf
   split at hu
   ·obtain ⟨d, hd, h1, h2⟩ := findM_use hu
    exact ⟨d, List.mem_cons_of_mem _ hd, h1, h2⟩
   ·exact ⟨c, List.mem_cons_self .., by simpa using hf, hu⟩
  ·obtain ⟨d, hd, h1, h2⟩ := findM_use hu
   exact ⟨d, List.mem_cons_of_mem _ hd, h1, h2⟩
theorem useM_use {roms : Roms} {pc : List BE} {h : SHeap} {nx : Nat} {c : Mtr} {args : List SV} {u : UsedX} (hu : useM roms pc h nx c args = .use u) : ∃ S : Sub, SV.beqL (SV.sbL pc S c.pat) args = true ∧ fitH pc S h c.hp = true ∧ apartN S c.hp [] = true ∧ insK (.lit true :: pc) S.i = true ∧
  okLs roms (.lit true :: pc) c.hp S.l = true ∧ S.r = [] ∧ belowV nx S.v = true ∧ romsSub roms c.roms = true ∧ belowL S nx c.cnt0 (namesM c) = true ∧ preOk pc S c.pre = .ok ∧
  u = ⟨c.res.sb pc { S with a := shiftM nx c.cnt0 (Nat.sub c.cnt c.cnt0) ++ S.a }, sbH pc { S with a := shiftM nx c.cnt0 (Nat.sub c.cnt c.cnt0) ++ S.a } c.hq ++ rmAll h (subNs S (goneM c.hq c.hp)), Nat.add nx (Nat.sub c.cnt c.cnt0), sbPc pc { S with a := shiftM nx c.cnt0 (Nat.sub c.cnt c.cnt0) ++ S.a } c.post⟩ := by
 unfold useM at hu
 generalize colH 0 h c.hp (colL 0 c.pat args Sub.nil) = S at hu
 simp only [] at hu
 split at hu
 ·rename_i h1
  split at hu
  ·rename_i h2
   split at hu
   ·rename_i h3
    split at hu
    ·rename_i h4
     split at hu
     ·rename_i h5
      split at hu
      ·rename_i h6 h7
       split at hu
       ·rename_i h8
        split at hu
        ·rename_i h9
         split at hu
         ·rename_i h10
          cases hu
          exact ⟨S, h1, h2, h3, h4, h5, h6, h7, h8, h9, h10, rfl⟩
         ·cases hu
         ·cases hu
        ·cases hu
       ·cases hu
      ·cases hu
     ·cases hu
    ·cases hu
   ·cases hu
  ·cases hu
 ·cases hu
theorem useM_post {ρ : Rho} {F : Fns} (g : Gd F ρ) {roms : Roms} {pc : List BE} (hp : Holds ρ pc) {h : SHeap} {nx : Nat} {c : Mtr} (hc : MPostOk F c) {args : List SV} {u : UsedX} (hu : useM roms pc h nx c args = .use u) : Holds ρ u.post := by
 obtain ⟨S, h1, h2, h3, h4, h5, h6, h7, h8, h9, h10, rfl⟩ := useM_use hu
 rw [sbPc_holds g.ok hp]
 have hpre := preOk_ok g.ok hp c.pre h10
 have e : ∀ (A : List (Nat × Nat)) (l : List BE), Holds (ρ.sb { S with a := A }) l ↔ Holds (ρ.sb S) l := by
  intro A l
  have : Same (ρ.sb S) (ρ.sb { S with a := A }) := ⟨rfl, rfl, rfl, rfl, rfl⟩
  exact this.holds
 exact hc _ g.F ((e _ _).2 hpre)
theorem findX_use {o : Orc} {pc : List BE} {h : SHeap} {nx f : Nat} {args : List SV} {u : UsedX} (hu : findX o pc h nx f args = .use u) : (∃ c ∈ o.ctr, ∃ v, c.f = f ∧ useC o.rom pc h nx c args = .use v ∧ u = ⟨v.val, v.made ++ h, v.next, v.post⟩) ∨ ∃ c ∈ o.mem, c.f = f ∧ useM o.rom pc h nx c args = .use u := by
 unfold findX at hu
 split at hu
 ·rename_i v hv
  cases hu
  obtain ⟨c, h1, h2, h3⟩ := findC_use hv
  exact .inl ⟨c, h1, v, h2, h3, rfl⟩
 ·cases hu
 ·exact .inr (findM_use hu)
theorem findX_post {ρ : Rho} {o : Orc} (g : Gd o.F ρ) (hP : PostsOk o) {pc : List BE} (hp : Holds ρ pc) {h : SHeap} {nx f : Nat} {args : List SV} {u : UsedX} (hu : findX o pc h nx f args = .use u) : Holds ρ u.post := by
 rcases findX_use hu with ⟨c, hc, v, _, hv, rfl⟩ | ⟨c, hc, _, hv⟩
 ·exact useC_post g hp (hP.1 c hc) hv
 ·exact useM_post g hp (hP.2 c hc) hv
end Go.Proofs.Ythenenacmiiphaa.Sx
namespace Go.Proofs.Ythenenacmiiphaa.Sx
open Go

theorem denL_eq (ρ : Rho) (l : List SV) : SV.denL ρ l = l.map (SV.den ρ) := by
  induction l with
  | nil => simp [SV.denL]
  | cons v l ih => simp [SV.denL, ih]
theorem namesL_eq (l : List SV) : SV.namesL l = l.flatMap SV.names := by
  induction l with
  | nil => simp [SV.namesL]
  | cons v l ih => simp [SV.namesL, ih]
theorem mem_namesL {l : List SV} {m : Nat} : m ∈ SV.namesL l ↔ ∃ v ∈ l, m ∈ v.names := by
 rw [namesL_eq, List.mem_flatMap]
structure Agr (ρ ρ' : Rho) (lo hi : Nat) : Prop where
 i : ρ'.i = ρ.i
 b : ρ'.b = ρ.b
 l : ρ'.l = ρ.l
 v : ρ'.v = ρ.v
 z : ρ'.z = ρ.z
 a : ∀ n, n < lo ∨ hi ≤ n → ρ'.a n = ρ.a n
theorem Agr.refl (ρ : Rho) (lo hi : Nat) : Agr ρ ρ lo hi := ⟨rfl, rfl, rfl, rfl, rfl, fun _ _ => rfl⟩
theorem Agr.same {ρ ρ' : Rho} {lo hi : Nat} (h : Agr ρ ρ' lo hi) : Same ρ ρ' := ⟨h.i, h.b, h.l, h.v, h.z⟩
theorem Agr.ok {ρ ρ' : Rho} {lo hi : Nat} (h : Agr ρ ρ' lo hi) (hρ : ρ.Ok) : ρ'.Ok := h.same.ok hρ
theorem IE.den_agr {ρ ρ' : Rho} {lo hi : Nat} (h : Agr ρ ρ' lo hi) (e : IE) : e.den ρ' = e.den ρ := IE.den_same h.same e
theorem BE.den_agr {ρ ρ' : Rho} {lo hi : Nat} (h : Agr ρ ρ' lo hi) (e : BE) : e.den ρ' = e.den ρ := BE.den_same h.same e
theorem LE.den_agr {ρ ρ' : Rho} {lo hi : Nat} (h : Agr ρ ρ' lo hi) (e : LE) : e.den ρ' = e.den ρ := LE.den_same h.same e
theorem capDen_same {ρ ρ' : Rho} (h : Same ρ ρ') (n : Nat) (c : Option IE) : capDen ρ' n c = capDen ρ n c := by
 cases c <;> simp [capDen, IE.den_same h]
theorem Agr.holds {ρ ρ' : Rho} {lo hi : Nat} (h : Agr ρ ρ' lo hi) {pc : List BE} : Holds ρ' pc ↔ Holds ρ pc := by
 unfold Holds
 simp [BE.den_agr h]
mutual
theorem SV.den_agr {ρ ρ' : Rho} {lo hi : Nat} (h : Agr ρ ρ' lo hi) : ∀ (v : SV), (∀ n ∈ v.names, n < lo ∨ hi ≤ n) → v.den ρ' = v.den ρ
 | .bool b, _ => by simp [SV.den, BE.den_agr h]
 | .int k e, _ => by simp [SV.den, IE.den_agr h]
 | .ptr n off, hn => by simp [SV.den, h.a n (hn n (by simp [SV.names]))]
 | .slice n off len cap, hn => by simp [SV.den, h.a n (hn n (by simp [SV.names]))]
 | .func fn f c, hn => by
  have hf : fnDen ρ' fn = fnDen ρ fn := by
   cases fn <;> simp [fnDen]
   exact h.a _ (hn _ (by simp [SV.names]))
  have h1 := SV.denL_agr h f (fun n hm => hn n (by cases fn <;> simp [SV.names, hm]))
  have h2 := SV.denL_agr h c (fun n hm => hn n (by cases fn <;> simp [SV.names, hm]))
  simp [SV.den, hf, h1, h2]
 | .iface t v, hn => by simp [SV.den, SV.den_agr h v (fun n hm => hn n (by simpa [SV.names] using hm))]
 | .agg cs, hn => by simp [SV.den, SV.denL_agr h cs (fun n hm => hn n (by simpa [SV.names] using hm))]
 | .tup vs, hn => by simp [SV.den, SV.denL_agr h vs (fun n hm => hn n (by simpa [SV.names] using hm))]
 | .opq n, _ => by simp [SV.den, h.v]
 | .const v, _ => by simp [SV.den]
 | .str bs, _ => by
  have : bs.map (IE.den ρ') = bs.map (IE.den ρ) := List.map_congr_left fun e _ => IE.den_agr h e
  simp [SV.den, this]
 | .sl n cn sz off len, hn => by simp [SV.den, h.a n (hn n (by simp [SV.names])), h.a cn (hn cn (by simp [SV.names]))]
 | .rom r off len cap, _ => by simp [SV.den, h.z, IE.den_agr h, capDen_same h.same]
 | .rptr r i c, _ => by simp [SV.den, h.z, IE.den_agr h]
 | .sll n cn sz off len cap, hn => by simp [SV.den, h.a n (hn n (by simp [SV.names])), h.a cn (hn cn (by simp [SV.names])), IE.den_agr h, capDen_same h.same]
 | .lptr n sz i c, hn => by simp [SV.den, h.a n (hn n (by simp [SV.names])), IE.den_agr h]
 | .sle n cn sz off l, hn => by simp [SV.den, h.a n (hn n (by simp [SV.names])), h.a cn (hn cn (by simp [SV.names])), IE.den_agr h]
 | .map n, hn => by simp [SV.den, h.a n (hn n (by simp [SV.names]))]
 | .lstr l, _ => by simp [SV.den, LE.den_agr h]
 | .cel l i j, _ => by simp [SV.den, LE.den_agr h, IE.den_agr h]
theorem SV.denL_agr {ρ ρ' : Rho} {lo hi : Nat} (h : Agr ρ ρ' lo hi) : ∀ (l : List SV), (∀ n ∈ SV.namesL l, n < lo ∨ hi ≤ n) → SV.denL ρ' l = SV.denL ρ l
 | [], _ => rfl
 | v :: l, hn => by
  rw [SV.denL, SV.denL, SV.den_agr h v (fun n hm => hn n (by simp [SV.namesL, hm])), SV.denL_agr h l (fun n hm => hn n (by simp [SV.namesL, hm]))]
end
def SlotsR (ρ : Rho) (sl : Slots) (a : Array Value) : Prop := ∀ i, (get2 sl i).map (SV.den ρ) = a[i]?
def NamesV (N : Nat) (v : SV) : Prop := ∀ n ∈ v.names, n < N
def NamesL (N : Nat) (l : List SV) : Prop := ∀ v ∈ l, NamesV N v
def SNames (N : Nat) (sl : Slots) : Prop := ∀ i v, get2 sl i = some v → NamesV N v
def HNames (N : Nat) (h : SHeap) : Prop := ∀ n o, lk h n = some o → n < N ∧ ∀ m ∈ o.names, m < N
theorem NamesV.le {N M : Nat} {v : SV} (h : NamesV N v) (hm : N ≤ M) : NamesV M v := fun n hn => Nat.lt_of_lt_of_le (h n hn) hm
theorem SNames.le {N M : Nat} {v : Slots} (h : SNames N v) (hm : N ≤ M) : SNames M v := fun i v hv => (h i v hv).le hm
theorem NamesL.iff {N : Nat} {l : List SV} : NamesL N l ↔ ∀ m ∈ SV.namesL l, m < N := by
 constructor
 ·intro h m hm
  obtain ⟨v, hv, h2⟩ := mem_namesL.1 hm
  exact h v hv m h2
 ·exact fun h v hv m hm => h m (mem_namesL.2 ⟨v, hv, hm⟩)
theorem SlotsR.agr {ρ ρ' : Rho} {sl : Slots} {a : Array Value} {lo hi : Nat} (h : SlotsR ρ sl a) (g : Agr ρ ρ' lo hi) (hn : ∀ i v, get2 sl i = some v → ∀ n ∈ v.names, n < lo ∨ hi ≤ n) : SlotsR ρ' sl a := by
 intro i
 rw [← h i]
 cases hv : get2 sl i with
 | none => rfl
 | some v => simp [SV.den_agr g v (hn i v hv)]
theorem SlotsR.put {ρ : Rho} {sl : Slots} {a : Array Value} (h : SlotsR ρ sl a) (d : Nat) (v : SV) : SlotsR ρ (put2 sl d v) (a.setIfInBounds d (v.den ρ)) := by
 intro i
 rw [get2_put2, Array.getElem?_setIfInBounds]
 have hi := h i
 by_cases hd : d = i
 ·subst hd
  simp only [if_true]
  split
  ·rename_i hlt
   rw [Array.getElem?_eq_getElem hlt] at hi
   cases hg : get2 sl d <;> simp [hg] at hi ⊢
  ·rename_i hlt
   rw [Array.getElem?_eq_none (by omega)] at hi
   cases hg : get2 sl d <;> simp [hg] at hi ⊢
 ·simp [hd, hi]
theorem SNames.put {N : Nat} {sl : Slots} {v : SV} (h : SNames N sl) (d : Nat) (hv : NamesV N v) : SNames N (put2 sl d v) := by
 intro i u hu
 rw [get2_put2] at hu
 split at hu
 ·cases hg : get2 sl i <;> simp [hg] at hu
  exact hu ▸ hv
 ·exact h i u hu
theorem SlotsR.putD {ρ : Rho} {sl : Slots} {a : Act} (h : SlotsR ρ sl a.tmps) (d : Option Tmp) (v : SV) : SlotsR ρ (putD sl d v) (a.put d (v.den ρ)).tmps := by
 cases d with
 | none => exact h
 | some d => exact h.put d v
theorem SNames.putD {N : Nat} {sl : Slots} {v : SV} (h : SNames N sl) (d : Option Tmp) (hv : NamesV N v) : SNames N (putD sl d v) := by
 cases d with
 | none => exact h
 | some d => exact h.put d hv
theorem ofBytes_den (ρ : Rho) (l : List UInt8) : ((ofBytes l).map (IE.den ρ)).map (fun n => UInt8.ofNat n.toNat) = l := by
  induction l with
  | nil => rfl
  | cons b l ih => simp only [ofBytes, fnat_eq, List.map_cons, IE.den, ih]; simp
theorem bytesOf_of (ρ : Rho) (s : ByteArray) : bytesOf ((ofBytes s.data.toList).map (IE.den ρ)) = s := by
 unfold bytesOf
 rw [ofBytes_den]
theorem ofScalar_den (ρ : Rho) (v : Value) : (ofScalar v).den ρ = v := by cases v <;> simp [ofScalar, SV.den, IE.den, BE.den, bytesOf_of]
theorem ofConst_den (ρ : Rho) (v : Value) : (ofConst v).den ρ = v := by
 cases v <;> simp [ofConst, SV.den, IE.den, BE.den, bytesOf_of]
 ·simp [denL_eq, Function.comp_def, ofScalar_den]
 ·split
  ·rename_i h
   simp [SV.den, SV.denL]
   exact h
  ·simp [SV.den]
theorem ofScalar_names (v : Value) : (ofScalar v).names = [] := by cases v <;> simp [ofScalar, SV.names]
theorem ofConst_names (v : Value) : (ofConst v).names = [] := by
 cases v <;> simp [ofConst, SV.names, namesL_eq, ofScalar_names]
 split <;> simp [SV.names, SV.namesL]
theorem ev_den {ρ : Rho} {sl : Slots} {a : Act} (h : SlotsR ρ sl a.tmps) (x : Operand) : a.eval x = (ev sl x).den ρ := by
 cases x with
 | tmp t =>
  simp only [Act.eval, ev]
  rw [Array.getD_eq_getD_getElem?, ← h t]
  cases get2 sl t <;> simp [SV.den, SV.denL, undef]
 | const v => simp [Act.eval, ev, ofConst_den]
 | global g => simp [Act.eval, ev, SV.den]
 | func f => simp [Act.eval, ev, SV.den, SV.denL, fnDen]
theorem ev_names {N : Nat} {sl : Slots} (h : SNames N sl) (x : Operand) : NamesV N (ev sl x) := by
 cases x with
 | tmp t =>
  simp only [ev]
  cases hg : get2 sl t with
  | none => intro n hn; simp [SV.names, SV.namesL] at hn
  | some v => exact h t v hg
 | const v => intro n hn; simp [ev, ofConst_names] at hn
 | global g => intro n hn; simp [ev, SV.names] at hn
 | func f => intro n hn; simp [ev, SV.names, SV.namesL] at hn

theorem IE.beqL_eq : ∀ (a b : List IE), IE.beqL a b = true → a = b
 | [], b, h => by cases b <;> simp [IE.beqL] at h; rfl
 | x :: l, b, h => by cases b <;> simp [IE.beqL] at h; rw [IE.beq_eq _ _ h.1, IE.beqL_eq _ _ h.2]
theorem capBeq_eq : ∀ (a b : Option IE), capBeq a b = true → a = b
 | none, none, _ => rfl
 | none, some _, h => by simp [capBeq] at h
 | some _, none, h => by simp [capBeq] at h
 | some a, some b, h => by simp only [capBeq] at h; rw [IE.beq_eq _ _ h]
mutual
theorem SV.beq_eq : ∀ (a b : SV), SV.beq a b = true → a = b
  | .bool a, b, h => by cases b <;> simp [SV.beq] at h; rw [BE.beq_eq _ _ h]
  | .int k a, b, h => by cases b <;> simp [SV.beq, keq_iff] at h; rw [h.1, IE.beq_eq _ _ h.2]
  | .ptr n o, b, h => by cases b <;> simp [SV.beq] at h; rw [h.1, h.2]
  | .slice n o l c, b, h => by cases b <;> simp [SV.beq] at h; rw [h.1, h.2.1, h.2.2.1, h.2.2.2]
  | .agg a, b, h => by cases b <;> simp [SV.beq] at h; rw [SV.beqL_eq _ _ h]
  | .tup a, b, h => by cases b <;> simp [SV.beq] at h; rw [SV.beqL_eq _ _ h]
  | .opq n, b, h => by cases b <;> simp [SV.beq] at h; rw [h]
  | .iface t a, b, h => by cases b <;> simp [SV.beq] at h; rw [h.1, SV.beq_eq _ _ h.2]
  | .func (.func n) f c, b, h => by
    cases b <;> try (simp [SV.beq] at h; done)
    rename_i gn p q
    cases gn <;> simp [SV.beq] at h
    rw [h.1, SV.beqL_eq _ _ h.2.1, SV.beqL_eq _ _ h.2.2]
  | .func (.yield n) f c, b, h => by
    cases b <;> try (simp [SV.beq] at h; done)
    rename_i gn p q
    cases gn <;> simp [SV.beq] at h
    rw [h.1, SV.beqL_eq _ _ h.2.1, SV.beqL_eq _ _ h.2.2]
  | .func (.method n) f c, b, h => by cases b <;> simp [SV.beq] at h
  | .func (.methodOf t n) f c, b, h => by cases b <;> simp [SV.beq] at h
  | .func (.via t p g q) f c, b, h => by cases b <;> simp [SV.beq] at h
  | .const v, b, h => by
    unfold SV.beq at h
    split at h <;> first
      | rfl
      | (cases h; done)
      | (exfalso; simp_all; done)
      | (simp_all; done)
      | (split at h
         · rename_i q; rw [Nat.eq_of_beq_eq_true q, Nat.eq_of_beq_eq_true h]
         · cases h)
  | .str a, b, h => by cases b <;> simp [SV.beq] at h; rw [IE.beqL_eq _ _ h]
  | .sl n c z o l, b, h => by cases b <;> simp [SV.beq] at h; rw [h.1, h.2.1, h.2.2.1, h.2.2.2.1, h.2.2.2.2]
  | .rom r x y q, b, h => by cases b <;> simp [SV.beq] at h; rw [h.1, IE.beq_eq _ _ h.2.1, IE.beq_eq _ _ h.2.2.1, capBeq_eq _ _ h.2.2.2]
  | .rptr r x c, b, h => by cases b <;> simp [SV.beq] at h; rw [h.1, h.2.1, IE.beq_eq _ _ h.2.2]
  | .sll n c z x y q, b, h => by cases b <;> simp [SV.beq] at h; rw [h.1, h.2.1, h.2.2.1, IE.beq_eq _ _ h.2.2.2.1, IE.beq_eq _ _ h.2.2.2.2.1, capBeq_eq _ _ h.2.2.2.2.2]
  | .lptr n z x c, b, h => by cases b <;> simp [SV.beq] at h; rw [h.1, h.2.1, h.2.2.1, IE.beq_eq _ _ h.2.2.2]
  | .sle n c z x y, b, h => by cases b <;> simp [SV.beq] at h; rw [h.1, h.2.1, h.2.2.1, IE.beq_eq _ _ h.2.2.2.1, IE.beq_eq _ _ h.2.2.2.2]
  | .lstr l, b, h => by cases b <;> simp [SV.beq] at h; rw [LE.beq_eq _ _ h]
  | .cel l i j, b, h => by cases b <;> simp [SV.beq] at h; rw [h.1, IE.beq_eq _ _ h.2.1, LE.beq_eq _ _ h.2.2]
  | .map n, b, h => by cases b <;> simp [SV.beq] at h; rw [h]
theorem SV.beqL_eq : ∀ (a b : List SV), SV.beqL a b = true → a = b
 | [], b, h => by cases b <;> simp [SV.beqL] at h; rfl
 | x :: l, b, h => by cases b <;> simp [SV.beqL] at h; rw [SV.beq_eq _ _ h.1, SV.beqL_eq _ _ h.2]
end
def mapE : List Value → List Value → List Nat → List MapEntry
 | k :: ks, v :: vs, b :: bs => { key := k, val := v, born := b } :: mapE ks vs bs
 | _, _, _ => []
def ObjR (ρ : Rho) : SObj → Obj → Prop
 | .cells cs t, o => o = .cells (SV.denL ρ cs).toArray t (0, 0)
 | .row cs t cn sz, o => ∃ (rest : Array Value) (lo hi : Nat), o = .cells ((SV.denL ρ cs).toArray ++ rest) t (lo, hi) ∧ (hi ≤ lo ∨ cs.length + rest.size ≤ lo) ∧ cs.length + rest.size = ρ.a cn * sz ∧ ρ.a cn ≤ maxLen ∧ 0 < sz
 | .rowl c tot ks t cn sz, o => ∃ (rest : Array Value) (lo hi : Nat), o = .cells ((c.den ρ).flatten.toArray ++ rest) t (lo, hi) ∧ (hi ≤ lo ∨ (c.den ρ).flatten.length + rest.size ≤ lo) ∧ (c.den ρ).flatten.length + rest.size = ρ.a cn * sz ∧ ρ.a cn ≤ maxLen ∧ 0 < sz ∧
   ks.length = sz ∧ Typed ks (c.den ρ) ∧ tot.den ρ = ((c.den ρ).length : Int)
 | .mix pre c len k post t, o => o = .cells (SV.denL ρ pre ++ (c.den ρ).flatten ++ SV.denL ρ post).toArray t (0, 0) ∧ Typed [.int k] (c.den ρ) ∧ (c.den ρ).length = len
 | .loop st pend fn tmps ps as body d, o => ∃ X, SlotsR ρ tmps X ∧ codeOk as = true ∧ codeOk body = true ∧ (∀ c, pend = some c → codeOk c = true) ∧ o = .loop { state := st, pending := pend, fn := fn, tmps := X, params := ps.toArray, assign := as, body := body, defers := ρ.a d }
 | .defd s, o => o = .deferred (if s then some [] else none)
 | .mapo ks vs bs c, o => o = .map (mapE (SV.denL ρ ks) (SV.denL ρ vs) bs).toArray c ∧ ks.length = vs.length ∧ ks.length = bs.length
def DrOn : Prop := False
structure Grew (a b : World) : Prop where
 gr : a.grownBy b none
 dr : DrOn → a.drawn ≤ b.drawn
theorem Grew.refl (a : World) : Grew a a := ⟨⟨rfl, rfl, rfl, Nat.le_refl _, fun _ _ _ => rfl⟩, fun _ => Nat.le_refl _⟩
theorem Grew.os {a b : World} (h : Grew a b) : b.os = a.os := h.gr.os
theorem Grew.tape {a b : World} (h : Grew a b) : b.tape = a.tape := h.gr.tape
theorem Grew.output {a b : World} (h : Grew a b) : b.output = a.output := h.gr.output
theorem Grew.size {a b : World} (h : Grew a b) : a.heap.size ≤ b.heap.size := h.gr.size
theorem Grew.block {a b : World} (h : Grew a b) (k : Nat) (hk : k < a.heap.size) (hn : some k ≠ (none : Option Nat)) : b.heap[k]? = a.heap[k]? := h.gr.block k hk hn
structure HeapF (ρ : Rho) (b0 : World) (L : Nat → Option SObj) (w : World) : Prop where
 g0 : Grew b0 w
 at_ : ∀ n o, L n = some o → ∃ obj, w.heap[ρ.a n]? = some obj ∧ ObjR ρ o obj
 own : ∀ n o, L n = some o → b0.heap.size ≤ ρ.a n
 inj : ∀ n m o p, L n = some o → L m = some p → ρ.a n = ρ.a m → n = m
abbrev HeapR (ρ : Rho) (b0 : World) (h : SHeap) (w : World) : Prop := HeapF ρ b0 (lk h) w
structure Move (ρ ρ' : Rho) (b0 : World) (h h' : SHeap) (nx nx' : Nat) (w w' : World) : Prop where
 agr : Agr ρ ρ' nx nx'
 le : nx ≤ nx'
 heap : HeapR ρ' b0 h' w'
 size : w.heap.size ≤ w'.heap.size
 same : ∀ k, k < w.heap.size → (∀ n o, lk h n = some o → ρ.a n ≠ k) → w'.heap[k]? = w.heap[k]?
 dom : ∀ n o, lk h' n = some o → (∃ p, lk h n = some p) ∨ (nx ≤ n ∧ n < nx' ∧ (w.heap.size ≤ ρ'.a n ∨ ∃ m p, lk h m = some p ∧ ρ'.a n = ρ.a m))
 names : HNames nx' h'
theorem get2_flat {tmps : Slots} {i : Nat} {v : SV} (hv : get2 tmps i = some v) : v ∈ tmps.flatMap (·.take 8) := by
 rw [get2_eq] at hv
 cases hc : tmps[i / 8]? with
 | none => simp [hc] at hv
 | some c =>
  simp only [hc, Option.bind_some] at hv
  refine List.mem_flatMap.2 ⟨c, List.mem_of_getElem? hc, ?_⟩
  have : (c.take 8)[i % 8]? = some v := by rw [List.getElem?_take, if_pos (Nat.mod_lt _ (by decide))]; exact hv
  exact List.mem_of_getElem? this
theorem flat_get2 {tmps : Slots} {v : SV} (hv : v ∈ tmps.flatMap (·.take 8)) : ∃ i, get2 tmps i = some v := by
 obtain ⟨c, hc, hv⟩ := List.mem_flatMap.1 hv
 obtain ⟨j, hj⟩ := List.mem_iff_getElem?.1 hc
 obtain ⟨p, hp⟩ := List.mem_iff_getElem?.1 hv
 rw [List.getElem?_take] at hp
 split at hp
 ·refine ⟨8 * j + p, ?_⟩
  rw [get2_eq, show (8 * j + p) / 8 = j by omega, show (8 * j + p) % 8 = p by omega, hj]
  exact hp
 ·cases hp
theorem ONames.flat {N : Nat} {tmps : Slots} (h : ∀ m ∈ SV.namesL (tmps.flatMap (·.take 8)), m < N) : SNames N tmps :=
 fun i v hv m hm => h m (mem_namesL.2 ⟨v, get2_flat hv, hm⟩)
theorem ONames.back {N : Nat} {tmps : Slots} (h : SNames N tmps) : ∀ m ∈ SV.namesL (tmps.flatMap (·.take 8)), m < N := by
 intro m hm
 obtain ⟨v, hv, h2⟩ := mem_namesL.1 hm
 obtain ⟨i, hi⟩ := flat_get2 hv
 exact h i v hi m h2
theorem ObjR.agr {ρ ρ' : Rho} {lo hi : Nat} (g : Agr ρ ρ' lo hi) {o : SObj} {obj : Obj} (h : ObjR ρ o obj) (hn : ∀ m ∈ o.names, m < lo ∨ hi ≤ m) : ObjR ρ' o obj := by
 cases o with
 | cells cs t =>
  have := SV.denL_agr g cs (by simpa [SObj.names] using hn)
  simp only [ObjR] at h ⊢
  rw [this]; exact h
 | row cs t cn sz =>
  have := SV.denL_agr g cs (fun m hm => hn m (by simp [SObj.names, hm]))
  simp only [ObjR] at h ⊢
  rw [this, g.a cn (hn cn (by simp [SObj.names]))]; exact h
 | rowl c tot ks t cn sz =>
  simp only [ObjR] at h ⊢
  rw [LE.den_agr g, IE.den_agr g, g.a cn (hn cn (by simp [SObj.names]))]; exact h
 | mix pre c len k post t =>
  have h1 := SV.denL_agr g pre (fun m hm => hn m (by simp [SObj.names, hm]))
  have h2 := SV.denL_agr g post (fun m hm => hn m (by simp [SObj.names, hm]))
  simp only [ObjR] at h ⊢
  rw [LE.den_agr g, h1, h2]; exact h
 | loop st pend fn tmps ps as body d =>
  obtain ⟨X, hX, c1, c2, c3, ho⟩ := h
  refine ⟨X, hX.agr g ?_, c1, c2, c3, ?_⟩
  ·intro i v hv m hm
   refine hn m ?_
   simp only [SObj.names, List.mem_cons]
   exact .inr (mem_namesL.2 ⟨v, get2_flat hv, hm⟩)
  ·rw [g.a d (hn d (by simp [SObj.names]))]; exact ho
 | defd s => exact h
 | mapo ks vs bs c =>
  have h1 := SV.denL_agr g ks (fun m hm => hn m (by simp [SObj.names, hm]))
  have h2 := SV.denL_agr g vs (fun m hm => hn m (by simp [SObj.names, hm]))
  simp only [ObjR] at h ⊢
  rw [h1, h2]; exact h
section
variable {ρ : Rho} {b0 : World} {h : SHeap} {nx : Nat} {w : World}
theorem HeapR.lt (H : HeapR ρ b0 h w) {n : Nat} {o : SObj} (hn : lk h n = some o) : ρ.a n < w.heap.size := by
 obtain ⟨obj, ho, _⟩ := H.at_ n o hn
 exact (Array.getElem?_eq_some_iff.1 ho).1
theorem Move.rfl' (H : HeapR ρ b0 h w) (hn : HNames nx h) : Move ρ ρ b0 h h nx nx w w :=
 ⟨.refl _ _ _, Nat.le_refl _, H, Nat.le_refl _, fun _ _ _ => rfl, fun n o hh => .inl ⟨o, hh⟩, hn⟩
def Rho.set (ρ : Rho) (n x : Nat) : Rho := { ρ with a := fun m => if m = n then x else ρ.a m }
theorem Rho.set_agr (ρ : Rho) (n x : Nat) : Agr ρ (ρ.set n x) n (n + 1) := ⟨rfl, rfl, rfl, rfl, rfl, fun m hm => by
 have : m ≠ n := by omega
 simp [Rho.set, this]⟩
theorem Rho.set_a (ρ : Rho) (n x : Nat) : (ρ.set n x).a n = x := by simp [Rho.set]
theorem Move.new (H : HeapR ρ b0 h w) (hn : HNames nx h) (o : SObj) (obj : Obj) (ho : ObjR ρ o obj) (hon : ∀ m ∈ o.names, m < nx) :
  Move ρ (ρ.set nx w.heap.size) b0 h ((nx, o) :: h) nx (nx + 1) w (w.alloc obj) := by
 have g := ρ.set_agr nx w.heap.size
 have hold : ∀ n p, lk h n = some p → (ρ.set nx w.heap.size).a n = ρ.a n := fun n p hp => g.a n (.inl (hn n p hp).1)
 refine ⟨g, by omega, ⟨?_, ?_, ?_, ?_⟩, (by show _ ≤ (w.heap.push obj).size; simp), ?_, ?_, ?_⟩
 ·exact ⟨⟨H.g0.os, H.g0.tape, H.g0.output, Nat.le_trans H.g0.size (by show _ ≤ (w.heap.push obj).size; simp), fun k hk hne => by
   rw [heap_alloc_old w obj k (Nat.lt_of_lt_of_le hk H.g0.size)]; exact H.g0.block k hk hne⟩, H.g0.dr⟩
 ·intro n p hp
  rw [lk_cons] at hp
  split at hp
  ·rename_i he
   subst he
   cases hp
   exact ⟨obj, by rw [Rho.set_a]; exact heap_alloc_new w obj, ho.agr g (fun m hm => .inl (hon m hm))⟩
  ·obtain ⟨ob, h1, h2⟩ := H.at_ n p hp
   exact ⟨ob, by rw [hold n p hp, heap_alloc_old w obj _ (H.lt hp)]; exact h1, h2.agr g (fun m hm => .inl ((hn n p hp).2 m hm))⟩
 ·intro n p hp
  rw [lk_cons] at hp
  split at hp
  ·rename_i he
   subst he
   rw [Rho.set_a]; exact H.g0.size
  ·rw [hold n p hp]; exact H.own n p hp
 ·intro n m p q hp hq he
  rw [lk_cons] at hp hq
  split at hp
  ·rename_i e1
   subst e1
   split at hq
   ·rename_i e2; exact e2
   ·rw [Rho.set_a, hold m q hq] at he
    have := H.lt hq
    omega
  ·split at hq
   ·rename_i e2
    subst e2
    rw [Rho.set_a, hold n p hp] at he
    have := H.lt hp
    omega
   ·rw [hold n p hp, hold m q hq] at he
    exact H.inj n m p q hp hq he
 ·exact fun k hk _ => heap_alloc_old w obj k hk
 ·intro n p hp
  rw [lk_cons] at hp
  split at hp
  ·rename_i he
   subst he
   exact .inr ⟨Nat.le_refl _, by omega, .inl (by rw [Rho.set_a]; exact Nat.le_refl _)⟩
  ·exact .inl ⟨p, hp⟩
 ·intro n p hp
  rw [lk_cons] at hp
  split at hp
  ·rename_i he
   subst he
   cases hp
   exact ⟨by omega, fun m hm => Nat.lt_succ_of_lt (hon m hm)⟩
  ·exact ⟨Nat.lt_succ_of_lt (hn n p hp).1, fun m hm => Nat.lt_succ_of_lt ((hn n p hp).2 m hm)⟩
def World.putO (w : World) (k : Nat) (obj : Obj) : World := { w with heap := w.heap.setIfInBounds k obj }
theorem Move.upd (H : HeapR ρ b0 h w) (hn : HNames nx h) {n : Nat} {o : SObj} (hl : lk h n = some o) (o' : SObj) (obj : Obj) (ho : ObjR ρ o' obj) (hon : ∀ m ∈ o'.names, m < nx) :
  Move ρ ρ b0 h (up h n o') nx nx w (World.putO w (ρ.a n) obj) := by
 have hlt := H.lt hl
 have hlk : ∀ m p, lk (up h n o') m = some p → (∃ q, lk h m = some q) ∧ (m = n ∧ p = o' ∨ m ≠ n ∧ lk h m = some p) := by
  intro m p hp
  rw [lk_up] at hp
  split at hp
  ·rename_i e; subst e
   simp [hl] at hp
   exact ⟨⟨o, hl⟩, .inl ⟨rfl, hp.symm⟩⟩
  ·rename_i e
   exact ⟨⟨p, hp⟩, .inr ⟨Ne.symm e, hp⟩⟩
 refine ⟨.refl _ _ _, Nat.le_refl _, ⟨?_, ?_, ?_, ?_⟩, by simp [World.putO], ?_, ?_, ?_⟩
 ·refine ⟨⟨H.g0.os, H.g0.tape, H.g0.output, by simp [World.putO, H.g0.size], fun k hk hne => ?_⟩, H.g0.dr⟩
  have := H.own n o hl
  rw [← H.g0.block k hk hne]
  simp only [World.putO]
  rw [Array.getElem?_setIfInBounds_ne (by omega)]
 ·intro m p hp
  obtain ⟨⟨q, hq⟩, hc⟩ := hlk m p hp
  rcases hc with ⟨rfl, rfl⟩ | ⟨hne, hm⟩
  ·exact ⟨obj, by simp [World.putO, hlt], ho⟩
  ·obtain ⟨ob, h1, h2⟩ := H.at_ m p hm
   refine ⟨ob, ?_, h2⟩
   have : ρ.a n ≠ ρ.a m := fun e => hne (H.inj n m o p hl hm e).symm
   simp only [World.putO]
   rw [Array.getElem?_setIfInBounds_ne this]; exact h1
 ·intro m p hp
  obtain ⟨⟨q, hq⟩, _⟩ := hlk m p hp
  exact H.own m q hq
 ·intro m k p q hp hq he
  obtain ⟨⟨p', hp'⟩, _⟩ := hlk m p hp
  obtain ⟨⟨q', hq'⟩, _⟩ := hlk k q hq
  exact H.inj m k p' q' hp' hq' he
 ·intro k hk hne
  simp only [World.putO]
  rw [Array.getElem?_setIfInBounds_ne (hne n o hl)]
 ·intro m p hp
  exact .inl (hlk m p hp).1
 ·intro m p hp
  obtain ⟨⟨q, hq⟩, hc⟩ := hlk m p hp
  refine ⟨(hn m q hq).1, ?_⟩
  rcases hc with ⟨rfl, rfl⟩ | ⟨_, hm⟩
  ·exact hon
  ·exact (hn m p hm).2
theorem Move.trans {ρ2 : Rho} {ρ1 : Rho} {h1 h2 : SHeap} {n1 n2 : Nat} {w1 w2 : World} (A : Move ρ ρ1 b0 h h1 nx n1 w w1) (B : Move ρ1 ρ2 b0 h1 h2 n1 n2 w1 w2) (hn : HNames nx h) :
  Move ρ ρ2 b0 h h2 nx n2 w w2 := by
 have g : Agr ρ ρ2 nx n2 := ⟨B.agr.i.trans A.agr.i, B.agr.b.trans A.agr.b, B.agr.l.trans A.agr.l, B.agr.v.trans A.agr.v, B.agr.z.trans A.agr.z, fun m hm => by
  have hA := A.le
  have hB := B.le
  rw [B.agr.a m (by omega), A.agr.a m (by omega)]⟩
 refine ⟨g, Nat.le_trans A.le B.le, B.heap, Nat.le_trans A.size B.size, ?_, ?_, B.names⟩
 ·intro k hk hne
  rw [B.same k (Nat.lt_of_lt_of_le hk A.size) ?_, A.same k hk hne]
  intro m o hm
  rcases A.dom m o hm with ⟨p, hp⟩ | ⟨_, _, h3 | ⟨q, p, hq, h3⟩⟩
  ·rw [A.agr.a m (.inl (hn m p hp).1)]; exact hne m p hp
  ·omega
  ·rw [h3]; exact hne q p hq
 ·intro m o hm
  have old : ∀ k p, lk h1 k = some p → (∃ q, lk h k = some q) ∨ (nx ≤ k ∧ k < n1 ∧ (w.heap.size ≤ ρ1.a k ∨ ∃ m p, lk h m = some p ∧ ρ1.a k = ρ.a m)) := A.dom
  rcases B.dom m o hm with ⟨p, hp⟩ | ⟨c1, c2, c3⟩
  ·rcases A.dom m p hp with hq | ⟨a1, a2, a3⟩
   ·exact .inl hq
   ·refine .inr ⟨a1, Nat.lt_of_lt_of_le a2 B.le, ?_⟩
    rw [B.agr.a m (.inl a2)]; exact a3
  ·refine .inr ⟨Nat.le_trans A.le c1, c2, ?_⟩
   rcases c3 with c3 | ⟨k, p, hk, c3⟩
   ·exact .inl (Nat.le_trans A.size c3)
   ·rcases A.dom k p hk with ⟨q, hq⟩ | ⟨a1, a2, a3⟩
    ·exact .inr ⟨k, q, hq, by rw [c3, A.agr.a k (.inl (hn k q hq).1)]⟩
    ·rw [c3]; exact a3
end
end Go.Proofs.Ythenenacmiiphaa.Sx
namespace Go.Proofs.Ythenenacmiiphaa.Sx
open Go

def StOk : ST → TypeDesc → Prop
 | .int k, d => d = .int k
 | .bool, d => d = .bool
 | .slice e, d => d = .slice e
 | .arr n e, d => d = .array n e
 | .str, d => d = .string
 | .ptr, d => ∃ e, d = .pointer e
 | .func, d => ∃ a b c, d = .func a b c
 | .iface, d => ∃ ms, d = .interface ms
 | .map k e, d => d = .map k e
 | .struct fs, d => ∃ F, d = .struct F ∧ F.toList.map (fun f => (f.offset, f.type)) = fs
 | .other, _ => True
def EqOk (P : Program) (t : TypeId) (ks : List CK) : Prop :=
 ∀ (ρ : Rho) (xs ys : List SV) (c : BE) (w : World) (x y : Operand), eqCells ks xs ys = some c →
  ((do eqGuard .eql t x y (.agg (SV.denL ρ xs).toArray) (.agg (SV.denL ρ ys).toArray); binOp .eql t (.agg (SV.denL ρ xs).toArray) (.agg (SV.denL ρ ys).toArray)) : Sem Value).run P w = .ok (.bool (c.den ρ)) w ∧
  ((do eqGuard .neq t x y (.agg (SV.denL ρ xs).toArray) (.agg (SV.denL ρ ys).toArray); binOp .neq t (.agg (SV.denL ρ xs).toArray) (.agg (SV.denL ρ ys).toArray)) : Sem Value).run P w = .ok (.bool (!c.den ρ)) w
structure TyOk (P : Program) (t : TypeId) (ti : TI) : Prop where
 info : ∃ i z, P.info? t = some i ∧ i.size = ti.size ∧ i.zero = some z ∧ (∀ ρ, z.cells = (SV.denL ρ ti.zero).toArray) ∧ i.bytes = ti.bytes
 zn : SV.namesL ti.zero = []
 zl : ti.zero.length = ti.size
 za : ∀ i z, P.info? t = some i → i.zero = some z → (ti.agg = true → ∃ cs, z = .agg cs) ∧ (ti.agg = false → ∀ cs, z ≠ .agg cs)
 und : ∃ d, P.underlying t = some d ∧ StOk ti.und d ∧ ti.agg = d.isRow
structure Tab.Ok (P : Program) (T : Tab) : Prop where
 ty : ∀ t ti, T.ty.get t = some ti → TyOk P t ti
 fn : ∀ f fn, T.fn.get f = some fn → P.funcs[f]? = some fn ∧ (fn.name == "runtime.NumGoroutine") = false
 code : ∀ f fn c, T.fn.get f = some fn → fn.body = some c → codeOk c = true
 eqs : ∀ t ks, lk T.eqs t = some ks → EqOk P t ks
 mixed : P.follows .mixedOrders = true
 posts : PostsOk T.orac

section
variable {P : Program} {T : Tab}
theorem run_zeroOf {t : TypeId} {i : TypeInfo} {z : Value} (hi : P.info? t = some i) (hz : i.zero = some z) (w : World) : (zeroValue t).run P w = .ok z w := by
 simp [zeroValue, typeInfo, hi, hz]
theorem run_sizeOf' {t : TypeId} {i : TypeInfo} (hi : P.info? t = some i) (w : World) : (sizeOf t).run P w = .ok i.size w := by
 simp [sizeOf, typeInfo, hi]
theorem run_isAgg {t : TypeId} {d : TypeDesc} (h : P.underlying t = some d) (w : World) : (isAgg t).run P w = .ok d.isRow w := by
 unfold isAgg
 rw [Sem.run_bind, run_underlying h w]
 cases d <;> simp
theorem cells_one (ρ : Rho) (v : SV) (h1 : ∀ l, v ≠ .agg l) (h2 : ∀ n, v ≠ .opq n) (h3 : ∀ l, v ≠ .const (.agg l)) (h4 : ∀ l i j, v ≠ .cel l i j) : (v.den ρ).cells = #[v.den ρ] := by
 cases v <;> first
  | (exact absurd rfl (h1 _))
  | (exact absurd rfl (h2 _))
  | (exact absurd rfl (h4 _ _ _))
  | (simp [SV.den, Value.cells]; done)
  | skip
 rename_i u
 cases u <;> first
  | (exact absurd rfl (h3 _))
  | (simp [SV.den, Value.cells])
theorem cells_den (ρ : Rho) (v : SV) (cs : List SV) (h : v.cells = some cs) : (v.den ρ).cells = (SV.denL ρ cs).toArray ∧ SV.namesL cs = v.names := by
 unfold SV.cells at h
 split at h
 ·cases h; exact ⟨by simp [SV.den, Value.cells], rfl⟩
 ·cases h
 ·cases h
 ·cases h
 ·rename_i h1 h2 h3 h4
  cases h
  exact ⟨by rw [cells_one ρ v (fun l e => h1 l e) (fun l e => h2 l e) (fun l e => h3 l e) (fun l i j e => h4 l i j e)]; simp [SV.denL], by simp [SV.namesL]⟩
theorem one_den (ρ : Rho) (v : SV) (h : v.one = true) : (v.den ρ).oneCell' = true := by
 unfold SV.one at h
 split at h <;> first
  | (cases h; done)
  | skip
 rename_i h1 h2 h3 h4 h5 h6
 cases v <;> first
  | (exact absurd rfl (h1 _))
  | (exact absurd rfl (h2 _))
  | (exact absurd rfl (h3 _))
  | (exact absurd rfl (h6 _ _ _))
  | (simp [SV.den, Value.oneCell']; done)
  | skip
 rename_i u
 cases u <;> first
  | (exact absurd rfl (h4 _))
  | (exact absurd rfl (h5 _))
  | (simp [SV.den, Value.oneCell'])
theorem allOne_den (ρ : Rho) (l : List SV) (h : allOne l = true) : ∀ v ∈ SV.denL ρ l, v.oneCell' = true := by
  induction l with
  | nil => simp [SV.denL]
  | cons v l ih =>
    simp only [allOne] at h
    split at h
    · rename_i hv
      intro u hu
      simp only [SV.denL, List.mem_cons] at hu
      rcases hu with rfl | hu
      · exact one_den ρ v hv
      · exact ih h u hu
    · cases h
theorem denL_length (ρ : Rho) (l : List SV) : (SV.denL ρ l).length = l.length := by simp [denL_eq]
theorem denL_get (ρ : Rho) (l : List SV) (i : Nat) : (SV.denL ρ l)[i]? = (l[i]?).map (SV.den ρ) := by simp [denL_eq]
theorem denL_append (ρ : Rho) (l m : List SV) : SV.denL ρ (l ++ m) = SV.denL ρ l ++ SV.denL ρ m := by simp [denL_eq]
theorem denL_take (ρ : Rho) (l : List SV) (n : Nat) : SV.denL ρ (l.take n) = (SV.denL ρ l).take n := by simp [denL_eq]
theorem denL_drop (ρ : Rho) (l : List SV) (n : Nat) : SV.denL ρ (l.drop n) = (SV.denL ρ l).drop n := by simp [denL_eq]
theorem puts_eq (vs : List SV) : ∀ (cs : List SV) (off : Nat), off + vs.length ≤ cs.length → puts cs off vs = cs.take off ++ vs ++ cs.drop (off + vs.length) := by
  induction vs with
  | nil => intro cs off h; simp [puts]
  | cons v vs ih =>
    intro cs off h
    simp only [List.length_cons] at h
    rw [puts, put_eq, ih _ _ (by simp; omega)]
    simp only [List.length_cons]
    apply List.ext_getElem?
    intro k
    simp only [List.getElem?_append, List.length_append, List.length_take, List.length_set, List.getElem?_take, List.getElem?_drop, List.getElem?_set, List.length_cons]
    rw [Nat.min_eq_left (by omega), Nat.min_eq_left (by omega)]
    by_cases h1 : k < off
    · simp [h1, show k < off + 1 by omega, show k < off + 1 + vs.length by omega, show k < off + (vs.length + 1) by omega, show ¬ off = k by omega]
    · by_cases h2 : k = off
      · subst h2
        simp [show k < k + 1 + vs.length by omega, show k < cs.length by omega]
      · by_cases h3 : k < off + 1 + vs.length
        · obtain ⟨j, rfl⟩ : ∃ j, k = off + 1 + j := ⟨k - (off + 1), by omega⟩
          simp [show off + 1 + j < off + 1 + vs.length by omega, show ¬ off + 1 + j < off + 1 by omega, show ¬ off + 1 + j < off by omega, show off + 1 + j < off + (vs.length + 1) by omega, show off + 1 + j - off = j + 1 by omega]
        · have e1 : off + 1 + vs.length + (k - (off + 1 + vs.length)) = k := by omega
          have e2 : off + (vs.length + 1) + (k - (off + (vs.length + 1))) = k := by omega
          simp [h3, show ¬ k < off + (vs.length + 1) by omega, e1, e2, show ¬ off = k by omega]
theorem namesL_of_mem {l : List SV} {N : Nat} : (∀ m ∈ SV.namesL l, m < N) ↔ ∀ v ∈ l, NamesV N v := NamesL.iff.symm
theorem namesL_sub {l l' : List SV} {N : Nat} (h : ∀ m ∈ SV.namesL l, m < N) (hs : ∀ v ∈ l', v ∈ l) : ∀ m ∈ SV.namesL l', m < N := by
 rw [namesL_of_mem] at *
 exact fun v hv => h v (hs v hv)
def ORok (P : Program) (ρ : Rho) (b0 : World) (h : SHeap) (nx : Nat) (w : World) (S : Sem Next) : OR → Prop
 | .val v h' nx' => ∃ ρ' w' nv, S.run P w = .ok nv w' ∧ (nv = .value (v.den ρ') ∨ (nv = .skip ∧ v = .tup [])) ∧ Move ρ ρ' b0 h h' nx nx' w w' ∧ NamesV nx' v
 | .enter f args => (∀ fn, P.funcs[f]? = some fn → fn.body.isSome = true → (fn.name == "runtime.NumGoroutine") = false → S.run P w = .ok (.enter f (SV.denL ρ args).toArray) w) ∧ NamesL nx args
 | .round l args => S.run P w = (Instr.yield (ρ.a l) (SV.denL ρ args).toArray).run P w ∧ l < nx ∧ NamesL nx args
 | .split _ => True
 | .fail _ => True
section
variable {ρ : Rho} {b0 : World} {pc : List BE} {h : SHeap} {nx : Nat} {w : World} {sl : Slots} {a : Act} {S : Sem Next}
theorem okSame (H : HeapR ρ b0 h w) (hn : HNames nx h) (v : SV) (hr : S.run P w = .ok (.value (v.den ρ)) w) (hv : NamesV nx v) : ORok P ρ b0 h nx w S (.val v h nx) :=
 ⟨ρ, w, _, hr, .inl rfl, Move.rfl' H hn, hv⟩
theorem okNew (H : HeapR ρ b0 h w) (hn : HNames nx h) (cs : List SV) (t : TypeId) (hr : S.run P w = .ok (.value (.pointer (some ⟨w.heap.size, 0, none⟩))) (w.alloc (.cells (SV.denL ρ cs).toArray t))) (hv : ∀ m ∈ SV.namesL cs, m < nx) :
  ORok P ρ b0 h nx w S (newCells h nx cs t) :=
 ⟨_, _, _, hr, .inl (by simp [SV.den, Rho.set_a]), Move.new H hn (.cells cs t) _ rfl hv, fun n hm => by simp [SV.names] at hm; omega⟩
theorem move_ok (H : HeapR ρ b0 h w) (hn : HNames nx h) (hsl : SlotsR ρ sl a.tmps) (hs : SNames nx sl) (x : Operand) : ORok P ρ b0 h nx w (pure (.value (a.eval x))) (opMove h nx sl x) :=
 okSame H hn _ (by rw [ev_den hsl]; rfl) (ev_names hs x)
theorem pick_ok (hρ : ρ.Ok) (hp : Holds ρ pc) (H : HeapR ρ b0 h w) (hn : HNames nx h) (hsl : SlotsR ρ sl a.tmps) (hs : SNames nx sl) (c x y : Operand) :
  ORok P ρ b0 h nx w (do pure (.value (if ← asBool (a.eval c) then a.eval x else a.eval y))) (opPick pc h nx sl c x y) := by
 unfold opPick
 split
 ·rename_i t ht
  split
  ·rename_i hd
   have := dec_den hρ hp _ _ hd
   exact okSame H hn _ (by simp [ev_den hsl, ht, SV.den, this, asBool]) (ev_names hs x)
  ·rename_i hd
   have := dec_den hρ hp _ _ hd
   exact okSame H hn _ (by simp [ev_den hsl, ht, SV.den, this, asBool]) (ev_names hs y)
  ·trivial
 ·trivial
theorem alloc_ok (hT : T.Ok P) (H : HeapR ρ b0 h w) (hn : HNames nx h) (t : TypeId) : ORok P ρ b0 h nx w (do pure (.value (← Instr.alloc t true (.tuple #[])))) (opAlloc T h nx t) := by
 unfold opAlloc
 split
 ·rename_i ti hti
  have hty := hT.ty t ti hti
  obtain ⟨i, z, hi, _, hz, hc, _⟩ := hty.info
  refine okNew H hn _ _ ?_ (by rw [hty.zn]; simp)
  simp [Instr.alloc, run_zeroOf hi hz, newVar, newRow, hc ρ]
 ·trivial
theorem okNewO (H : HeapR ρ b0 h w) (hn : HNames nx h) (o : SObj) (cs : List SV) (t : TypeId) (hR : ObjR ρ o (.cells (SV.denL ρ cs).toArray t (0, 0))) (hr : S.run P w = .ok (.value (.pointer (some ⟨w.heap.size, 0, none⟩))) (w.alloc (.cells (SV.denL ρ cs).toArray t))) (hv : ∀ m ∈ o.names, m < nx) :
  ORok P ρ b0 h nx w S (.val (.ptr nx 0) ((nx, o) :: h) (nx + 1)) :=
 ⟨_, _, _, hr, .inl (by simp [SV.den, Rho.set_a]), Move.new H hn o _ hR hv, fun n hm => by simp [SV.names] at hm; omega⟩
theorem repZ_den (k : IntKind) : ∀ n, SV.denL ρ (reps [.int k (.lit 0)] n) = (List.replicate n [Value.int k 0]).flatten
 | 0 => rfl
 | n + 1 => by
  rw [List.replicate_succ, List.flatten_cons, ← repZ_den k n]
  rfl
theorem objOf_R (cs : List SV) (t : TypeId) : ObjR ρ (objOf cs t) (.cells (SV.denL ρ cs).toArray t (0, 0)) := by
 unfold objOf
 split
 ·rfl
 ·split
  ·rename_i p k n q hq
   split
   ·rename_i hb
    have e := SV.beqL_eq _ _ hb
    have hd : (LE.rep (.int k (.lit 0) .nil) (.lit (n : Nat))).den ρ = List.replicate n [Value.int k 0] := by
     show List.replicate ((n : Nat) : Int).toNat _ = _
     rw [Int.toNat_natCast]; rfl
    refine ⟨?_, ?_, ?_⟩
    ·rw [e, denL_append, denL_append, repZ_den, hd, List.append_assoc]
    ·rw [hd]
     intro x hx
     rw [(List.mem_replicate.1 hx).2]
     cases k <;> rfl
    ·rw [hd, List.length_replicate]
   ·rfl
  ·rfl
theorem objOf_names (cs : List SV) (t : TypeId) : ∀ m ∈ (objOf cs t).names, m ∈ SV.namesL cs := by
 unfold objOf
 split
 ·exact fun m hm => hm
 ·split
  ·rename_i p k n q hq
   split
   ·rename_i hb
    have e := SV.beqL_eq _ _ hb
    intro m hm
    rw [e, namesL_eq, List.flatMap_append, List.flatMap_append, ← namesL_eq, ← namesL_eq, ← namesL_eq]
    simp only [SObj.names, List.mem_append] at hm ⊢
    rcases hm with hm | hm
    ·exact .inl hm
    ·exact .inr (.inr hm)
   ·exact fun m hm => hm
  ·exact fun m hm => hm
theorem box_ok (H : HeapR ρ b0 h w) (hn : HNames nx h) (hsl : SlotsR ρ sl a.tmps) (hs : SNames nx sl) (t : TypeId) (x : Operand) : ORok P ρ b0 h nx w (do pure (.value (← Instr.box t (a.eval x)))) (opBox h nx sl t x) := by
 unfold opBox
 split
 ·rename_i cs hcs
  obtain ⟨h1, h2⟩ := cells_den ρ _ _ hcs
  refine okNewO H hn (objOf cs t) cs t (objOf_R cs t) ?_ (fun m hm => by have := objOf_names cs t m hm; rw [h2] at this; exact ev_names hs x m this)
  simp [Instr.box, newVar, newRow, ev_den hsl, h1]
 ·trivial
theorem midL_den {c : LE} {k : IntKind} (ht : Typed [.int k] (c.den ρ)) : ∀ (n i : Nat), i + n = (c.den ρ).length → SV.denL ρ (midL c k n i) = ((c.den ρ).drop i).flatten
 | 0, i, h => by rw [List.drop_eq_nil_of_le (by omega)]; rfl
 | n + 1, i, h => by
  have hi : i < (c.den ρ).length := by omega
  have ih := midL_den ht n (i + 1) (by omega)
  rw [List.drop_eq_getElem_cons hi, List.flatten_cons, ← ih]
  have e := atomsAt_den (ρ := ρ) c (.lit (i : Nat)) [.int k] 0 ((c.den ρ)[i]) (by simpa using ht _ (List.getElem_mem hi)) (by simp [IE.den, hi])
  have e2 : SV.denL ρ (atomsAt c (.lit (i : Nat)) [.int k] 0) = [SV.den ρ (.int k (.cel k c (.lit (i : Nat)) 0))] := rfl
  rw [e2] at e
  show SV.den ρ _ :: SV.denL ρ _ = _
  rw [List.drop_zero] at e
  rw [← e]; rfl
theorem midL_names (c : LE) (k : IntKind) : ∀ (n i : Nat), SV.namesL (midL c k n i) = []
 | 0, _ => rfl
 | n + 1, i => by simp [midL, SV.namesL, SV.names, midL_names c k n]
theorem obj_cells {o : SObj} {obj : Obj} {cs : List SV} (hR : ObjR ρ o obj) (hc : o.cs = some cs) :
  ∃ (rest : Array Value) (t : TypeId) (lo hi : Nat), obj = .cells ((SV.denL ρ cs).toArray ++ rest) t (lo, hi) ∧ (hi ≤ lo ∨ cs.length + rest.size ≤ lo) ∧
   (∀ cs', cs'.length = cs.length → ObjR ρ (o.put cs') (.cells ((SV.denL ρ cs').toArray ++ rest) t (lo, hi))) ∧ (∀ m ∈ SV.namesL cs, m ∈ o.names) ∧ (∀ cs', ∀ m ∈ (o.put cs').names, m ∈ SV.namesL cs' ∨ m ∈ o.names) := by
 cases o with
 | cells c t =>
  simp only [SObj.cs, Option.some.injEq] at hc
  subst hc
  simp only [ObjR] at hR
  subst hR
  refine ⟨#[], t, 0, 0, by simp, .inl (Nat.le_refl _), fun cs' _ => by simp [SObj.put, ObjR], fun m hm => by simpa [SObj.names] using hm, fun cs' m hm => .inl (by simpa [SObj.put, SObj.names] using hm)⟩
 | row c t cn sz =>
  simp only [SObj.cs, Option.some.injEq] at hc
  subst hc
  obtain ⟨rest, lo, hi, rfl, h1, h2, h3⟩ := hR
  refine ⟨rest, t, lo, hi, rfl, h1, ?_, fun m hm => by simp [SObj.names, hm], ?_⟩
  ·intro cs' hl
   refine ⟨rest, lo, hi, rfl, by rw [hl]; exact h1, by rw [hl]; exact h2, h3⟩
  ·intro cs' m hm
   simp only [SObj.put, SObj.names, List.mem_cons] at hm ⊢
   rcases hm with hm | hm
   ·exact .inr (.inl hm)
   ·exact .inl hm
 | rowl => simp [SObj.cs] at hc
 | mapo => simp [SObj.cs] at hc
 | mix pre c len k post t =>
  simp only [SObj.cs, Option.some.injEq] at hc
  subst hc
  obtain ⟨rfl, ht, hl⟩ := hR
  have hm := midL_den ht len 0 (by omega)
  rw [List.drop_zero] at hm
  refine ⟨#[], t, 0, 0, ?_, .inl (Nat.le_refl _), ?_, ?_, ?_⟩
  ·rw [denL_append, denL_append, hm]; simp
  ·intro cs' hlen
   simp only [SObj.put]
   split
   ·rename_i hq
    have hq := SV.beqL_eq _ _ hq
    refine ⟨?_, ht, hl⟩
    rw [← hm, ← hq, ← denL_append, ← denL_append, List.append_assoc]
    congr 2
    rw [show cs'.drop (pre.length + len) = (cs'.drop pre.length).drop len by rw [List.drop_drop], List.take_append_drop, List.take_append_drop]
    simp
   ·simp [ObjR]
  ·intro m hmm
   have e : SV.namesL (pre ++ (midL c k len 0 ++ post)) = SV.namesL pre ++ SV.namesL post := by
    have h0 := midL_names c k len 0
    rw [namesL_eq] at h0
    rw [namesL_eq, List.flatMap_append, List.flatMap_append, h0, ← namesL_eq, ← namesL_eq]; rfl
   rw [e] at hmm
   exact hmm
  ·intro cs' m hmm
   simp only [SObj.put] at hmm
   split at hmm
   ·simp only [SObj.names, List.mem_append] at hmm
    rcases hmm with hmm | hmm
    ·obtain ⟨v, hv, h2⟩ := mem_namesL.1 hmm
     exact .inl (mem_namesL.2 ⟨v, List.mem_of_mem_take hv, h2⟩)
    ·obtain ⟨v, hv, h2⟩ := mem_namesL.1 hmm
     exact .inl (mem_namesL.2 ⟨v, List.mem_of_mem_drop hv, h2⟩)
   ·exact .inl (by simpa [SObj.names] using hmm)
 | loop => simp [SObj.cs] at hc
 | defd => simp [SObj.cs] at hc
theorem ocs_some {n : Nat} {cs : List SV} (hc : ocs h n = some cs) : ∃ o, lk h n = some o ∧ o.cs = some cs := by
 unfold ocs at hc
 split at hc
 ·rename_i o ho; exact ⟨o, ho, hc⟩
 ·cases hc
theorem cell_at {n : Nat} {o : SObj} {cs : List SV} (H : HeapR ρ b0 h w) (hl : lk h n = some o) (hc : o.cs = some cs) {j : Nat} {v : SV} (hv : cs[j]? = some v) : w.cell? ⟨ρ.a n, j, none⟩ = some (v.den ρ) := by
 obtain ⟨obj, ho, hR⟩ := H.at_ n _ hl
 obtain ⟨rest, t, lo, hi, rfl, _⟩ := obj_cells hR hc
 have hj : j < cs.length := (List.getElem?_eq_some_iff.1 hv).1
 simp only [World.cell?, ho]
 rw [Array.getElem?_append_left (by simpa [denL_length] using hj)]
 simp [denL_get, hv]
theorem load_run (hT : T.Ok P) (H : HeapR ρ b0 h w) (t : TypeId) (n off : Nat) (v : SV) (h' : SHeap) (nx' : Nat) (hl : loadAt T h nx t n off = .val v h' nx') :
  (loadVar t ⟨ρ.a n, off, none⟩).run P w = .ok (v.den ρ) w ∧ h' = h ∧ nx' = nx ∧ ∃ o, lk h n = some o ∧ ∀ m ∈ v.names, m ∈ o.names := by
 unfold loadAt at hl
 split at hl
 ·rename_i ti cs hti hocs
  obtain ⟨o, hlk, hcs⟩ := ocs_some hocs
  have hty := hT.ty t ti hti
  obtain ⟨obj, ho, hR⟩ := H.at_ n _ hlk
  obtain ⟨_, _, _, _, _, _, _, hsub, _⟩ := obj_cells hR hcs
  obtain ⟨d, hd, _, hag⟩ := hty.und
  obtain ⟨i, z, hi, hsz, _, _, _⟩ := hty.info
  split at hl
  ·rename_i ha
   split at hl
   ·rename_i hle
    cases hl
    have hle' : off + ti.size ≤ cs.length := Nat.le_of_ble_eq_true hle
    refine ⟨?_, rfl, rfl, o, hlk, ?_⟩
    ·have := run_loadVar_mid (P := P) w (ρ.a n) off t (SV.denL ρ ((cs.drop off).take ti.size)) d ?_ hd (by rw [← hag]; exact ha) (by rw [hi]; simp [hsz, denL_length]; omega)
     ·simpa [SV.den] using this
     ·intro j v hj
      rw [denL_get, List.getElem?_take] at hj
      split at hj
      ·rw [List.getElem?_drop] at hj
       cases hq : cs[off + j]? with
       | none => simp [hq] at hj
       | some u =>
        simp [hq] at hj
        rw [cell_at H hlk hcs hq, hj]
      ·simp at hj
    ·intro m hm
     simp only [SV.names] at hm
     obtain ⟨v, hv, h2⟩ := mem_namesL.1 hm
     exact hsub m (mem_namesL.2 ⟨v, List.mem_of_mem_drop (List.mem_of_mem_take hv), h2⟩)
   ·cases hl
  ·rename_i ha
   split at hl
   ·rename_i v' hv
    cases hl
    rw [nth_eq] at hv
    refine ⟨?_, rfl, rfl, o, hlk, fun m hm => hsub m (mem_namesL.2 ⟨v, List.mem_of_getElem? hv, hm⟩)⟩
    have hc : w.cell? ⟨ρ.a n, off, none⟩ = some (v.den ρ) := cell_at H hlk hcs hv
    have hr : d.isRow = false := by rw [← hag]; simpa using ha
    simp [loadVar, run_isAgg hd, hr, hc]
   ·cases hl
 ·cases hl
theorem conf1_one {k : CK} {v : Value} (h : conf1 k v = true) : v.oneCell' = true := by
 cases k <;> cases v <;> simp_all [conf1, Value.oneCell']
theorem conf_one : ∀ {ks : List CK} {e : List Value}, conf ks e = true → ∀ v ∈ e, v.oneCell' = true
 | [], [], _, v, hv => by cases hv
 | [], _ :: _, h, _, _ => by simp [conf] at h
 | _ :: _, [], h, _, _ => by simp [conf] at h
 | k :: ks, u :: e, h, v, hv => by
  simp only [conf] at h
  split at h
  ·rcases List.mem_cons.1 hv with rfl | hv
   ·exact conf1_one ‹_›
   ·exact conf_one h v hv
  ·cases h
theorem typed_one {ks : List CK} {l : LV} (h : Typed ks l) : ∀ v ∈ l.flatten, v.oneCell' = true := by
 intro v hv
 obtain ⟨e, he, hve⟩ := List.mem_flatten.1 hv
 exact conf_one (h e he) v hve
theorem flat_len {ks : List CK} : ∀ {l : LV}, Typed ks l → l.flatten.length = l.length * ks.length
 | [], _ => by simp
 | e :: l, h => by
  have h1 := conf_length (h e (List.mem_cons_self ..))
  have h2 := flat_len (l := l) (h.sub fun x hx => List.mem_cons_of_mem _ hx)
  simp only [List.flatten_cons, List.length_append, List.length_cons, h1, h2, Nat.add_mul]; omega
theorem flat_take {ks : List CK} : ∀ (l : LV) (n : Nat), Typed ks l → (l.take n).flatten = l.flatten.take (n * ks.length)
 | [], n, _ => by simp
 | e :: l, 0, _ => by simp
 | e :: l, n + 1, h => by
  have h1 := conf_length (h e (List.mem_cons_self ..))
  have h2 := flat_take l n (h.sub fun x hx => List.mem_cons_of_mem _ hx)
  simp only [List.take_succ_cons, List.flatten_cons, h2]
  rw [List.take_append, List.take_of_length_le (l := e) (by rw [h1, Nat.add_mul]; omega)]
  congr 2
  rw [h1, Nat.add_mul]; omega
theorem flat_drop {ks : List CK} : ∀ (l : LV) (n : Nat), Typed ks l → (l.drop n).flatten = l.flatten.drop (n * ks.length)
 | [], n, _ => by simp
 | e :: l, 0, _ => by simp
 | e :: l, n + 1, h => by
  have h1 := conf_length (h e (List.mem_cons_self ..))
  have h2 := flat_drop l n (h.sub fun x hx => List.mem_cons_of_mem _ hx)
  simp only [List.drop_succ_cons, List.flatten_cons, h2]
  rw [List.drop_append, List.drop_eq_nil_of_le (as := e) (by rw [h1, Nat.add_mul]; omega), List.nil_append]
  congr 1
  rw [h1, Nat.add_mul]; omega
theorem flat_set {ks : List CK} {l : LV} {i : Nat} {e : List Value} (h : Typed ks l) (hi : i < l.length) (he : conf ks e = true) : (l.set i e).flatten = l.flatten.take (i * ks.length) ++ e ++ l.flatten.drop (i * ks.length + e.length) := by
 rw [List.set_eq_take_append_cons_drop, if_pos hi, List.flatten_append, List.flatten_cons, flat_take l i h, flat_drop l (i + 1) h, conf_length he, Nat.add_mul, Nat.one_mul, List.append_assoc]
theorem flat_get {ks : List CK} {l : LV} (h : Typed ks l) {i : Nat} {e : List Value} (hi : l[i]? = some e) {c : Nat} (hc : c < ks.length) : l.flatten[i * ks.length + c]? = e[c]? := by
 have h1 : (l.drop i).flatten = l.flatten.drop (i * ks.length) := flat_drop l i h
 have h2 : l.drop i = e :: l.drop (i + 1) := by
  have hlt := (List.getElem?_eq_some_iff.1 hi).1
  rw [List.drop_eq_getElem_cons hlt, (List.getElem?_eq_some_iff.1 hi).2]
 have h3 := congrArg (·[c]?) h1
 simp only [h2, List.flatten_cons, List.getElem?_drop] at h3
 rw [← h3, List.getElem?_append_left]
 rw [conf_length (h e (List.mem_of_getElem? hi))]; exact hc
def GlobOk (F : Fns) (b0 : World) : Prop := ∀ g cs, lk F.g g = some cs → ∃ t m, b0.heap[g]? = some (.cells cs.toArray t m)
theorem GlobOk.cell {F : Fns} {b0 : World} (h : GlobOk F b0) {g : Nat} {cs : List Value} {i : Nat} {v : Value} (hl : lk F.g g = some cs) (hv : cs[i]? = some v) : b0.cell? ⟨g, i, none⟩ = some v ∧ g < b0.heap.size := by
 obtain ⟨t, m, e⟩ := h g cs hl
 refine ⟨?_, (Array.getElem?_eq_some_iff.1 e).1⟩
 unfold World.cell?
 rw [e]
 simpa using hv
def RomsOk (roms : List (Nat × (Nat × List CK))) (b0 : World) (ρ : Rho) : Prop := GlobOk ρ.z.F b0 ∧ ∀ r esz ks, lk roms r = some (esz, ks) →
 ks.length = esz ∧ ρ.z.re r = esz ∧ Typed ks (ρ.z.rl r) ∧ (0 < (ρ.z.rl r).length → ρ.z.ra r = some ⟨ρ.z.rb r, ρ.z.ro r, none⟩ ∧ ρ.z.rb r < b0.heap.size) ∧ (ρ.z.rl r).length ≤ ρ.z.rc r ∧
 ∀ (i c : Nat) (e : List Value) (v : Value), (ρ.z.rl r)[i]? = some e → e[c]? = some v → b0.cell? ⟨ρ.z.rb r, ρ.z.ro r + i * esz + c, none⟩ = some v
abbrev RomOk (o : Orc) (b0 : World) (ρ : Rho) : Prop := RomsOk o.rom b0 ρ
theorem RomsOk.typed {roms : List (Nat × (Nat × List CK))} {b0 : World} {ρ : Rho} (h : RomsOk roms b0 ρ) : ∀ r esz ks, lk roms r = some (esz, ks) → Typed ks (ρ.z.rl r) := fun r esz ks hr => (h.2 r esz ks hr).2.2.1
theorem grown_cell {b w : World} (g : Grew b w) {a : Addr} {v : Value} (h : b.cell? a = some v) (hb : a.block < b.heap.size) : w.cell? a = some v := by
 unfold World.cell? at h ⊢
 rw [g.block a.block hb (by simp)]; exact h
theorem globok_grown {F : Fns} {b w : World} (h : GlobOk F b) (g : Grew b w) : GlobOk F w := fun n cs hl => by
 obtain ⟨t, m, e⟩ := h n cs hl
 exact ⟨t, m, by rw [g.block n (Array.getElem?_eq_some_iff.1 e).1 (by simp)]; exact e⟩
theorem glob_nil {F : Fns} {w : World} (h : F.g = []) : GlobOk F w := fun n cs hl => by rw [h, lk_nil] at hl; cases hl
theorem rom_cell {roms : List (Nat × (Nat × List CK))} (hrom : RomsOk roms b0 ρ) (g : Grew b0 w) {r esz : Nat} {ks : List CK} (hr : lk roms r = some (esz, ks)) {i c : Nat} {e : List Value} {v : Value} (he : (ρ.z.rl r)[i]? = some e) (hv : e[c]? = some v) :
  w.cell? ⟨ρ.z.rb r, ρ.z.ro r + i * esz + c, none⟩ = some v := by
 obtain ⟨_, _, _, r2, _, r3⟩ := hrom.2 r esz ks hr
 have hlt := (List.getElem?_eq_some_iff.1 he).1
 exact grown_cell g (r3 i c e v he hv) (r2 (by omega)).2
theorem rowl_cell (H : HeapR ρ b0 h w) {n : Nat} {l : LE} {tot : IE} {ks : List CK} {t : TypeId} {cn sz : Nat} (hl : lk h n = some (.rowl l tot ks t cn sz)) {i c : Nat} {e : List Value} {v : Value} (he : (l.den ρ)[i]? = some e) (hv : e[c]? = some v) :
  w.cell? ⟨ρ.a n, i * sz + c, none⟩ = some v := by
 obtain ⟨obj, ho, rest, lo, hi, rfl, _, _, _, _, hks, ht, _⟩ := H.at_ n _ hl
 have hc : c < ks.length := by
  rw [← conf_length (ht e (List.mem_of_getElem? he))]
  exact (List.getElem?_eq_some_iff.1 hv).1
 have hg := flat_get ht he hc
 rw [hks, hv] at hg
 have hlt := (List.getElem?_eq_some_iff.1 hg).1
 simp only [World.cell?, ho]
 rw [Array.getElem?_append_left (by simpa using hlt)]
 simpa using hg
theorem mix_cell (H : HeapR ρ b0 h w) {n : Nat} {pre post : List SV} {l : LE} {len : Nat} {k : IntKind} {t : TypeId} (hl : lk h n = some (.mix pre l len k post t)) {i c : Nat} {e : List Value} {v : Value} (he : (l.den ρ)[i]? = some e) (hv : e[c]? = some v) :
  w.cell? ⟨ρ.a n, i * 1 + pre.length + c, none⟩ = some v := by
 obtain ⟨obj, ho, rfl, ht, hlen⟩ := H.at_ n _ hl
 have hc : c < 1 := by
  have := conf_length (ht e (List.mem_of_getElem? he))
  simp only [List.length_cons, List.length_nil] at this
  have h2 := (List.getElem?_eq_some_iff.1 hv).1
  omega
 have hg := flat_get ht he (c := c) (by simpa using hc)
 rw [hv] at hg
 simp only [List.length_cons, List.length_nil, Nat.zero_add] at hg
 have hlt := (List.getElem?_eq_some_iff.1 hg).1
 simp only [World.cell?, ho]
 rw [List.getElem?_toArray, List.getElem?_append_left (by rw [List.length_append, denL_length]; omega), List.getElem?_append_right (by rw [denL_length]; omega), denL_length, show i * 1 + pre.length + c - pre.length = i * 1 + c by omega]
 exact hg
theorem needO_ok (hρ : ρ.Ok) (hp : Holds ρ pc) {c : BE} {k : OR} {m : Nat} (hk : c.den ρ = true → ORok P ρ b0 h nx w S k) : ORok P ρ b0 h nx w S (needO pc c k m) := by
 unfold needO
 split
 ·rename_i hd; exact hk (dec_den hρ hp _ _ hd)
 ·trivial
 ·trivial
theorem splitO_ok (hρ : ρ.Ok) (hp : Holds ρ pc) {c : BE} {k k' : OR} (hk : c.den ρ = true → ORok P ρ b0 h nx w S k) (hk' : c.den ρ = false → ORok P ρ b0 h nx w S k') : ORok P ρ b0 h nx w S (splitO pc c k k') := by
 unfold splitO
 split
 ·rename_i hd; exact hk (dec_den hρ hp _ _ hd)
 ·rename_i hd; exact hk' (dec_den hρ hp _ _ hd)
 ·trivial
theorem le_t {x y : IE} (h : (mkLe x y).den ρ = true) : x.den ρ ≤ y.den ρ := by rw [mkLe_den] at h; exact of_decide_eq_true h
theorem le_f {x y : IE} (h : (mkLe x y).den ρ = false) : y.den ρ < x.den ρ := by
 rw [mkLe_den] at h
 have := of_decide_eq_false h
 omega
theorem nle_t {x y : IE} (h : (mkNot (mkLe x y)).den ρ = true) : y.den ρ < x.den ρ := by
 rw [mkNot_den, mkLe_den] at h
 simp at h; exact h
theorem eq_t {x y : IE} (h : (mkEq x y).den ρ = true) : x.den ρ = y.den ρ := by rw [mkEq_den] at h; exact of_decide_eq_true h
theorem eq_f {x y : IE} (h : (mkEq x y).den ρ = false) : x.den ρ ≠ y.den ρ := by rw [mkEq_den] at h; exact of_decide_eq_false h
theorem lit_den (n : Int) : (IE.lit n).den ρ = n := by simp only [IE.den]
theorem pick_run (hT : T.Ok P) {t : TypeId} {ti : TI} (hti : T.ty.get t = some ti) {b o : Nat} {cs : List SV} {e : List Value} (he : SV.denL ρ cs = e) (hc : ∀ j v, e[j]? = some v → w.cell? ⟨b, o + j, none⟩ = some v) (hnm : SV.namesL cs = []) {c : Nat} (k : SV → Prop)
  (hk : ∀ v, (loadVar t ⟨b, o + c, none⟩).run P w = .ok (v.den ρ) w → v.names = [] → k v) : ∀ r, pickCs ti c h nx cs = r → (∃ v, r = .val v h nx ∧ k v) ∨ ∃ m, r = .fail m := by
 intro r hr
 have hty := hT.ty t ti hti
 obtain ⟨d, hd, _, hag⟩ := hty.und
 obtain ⟨inf, z, hi, hsz, _, _, _⟩ := hty.info
 have hsub : ∀ l : List SV, (∀ v ∈ l, v ∈ cs) → SV.namesL l = [] := by
  intro l hl
  cases hq : SV.namesL l with
  | nil => rfl
  | cons m q =>
   have : m ∈ SV.namesL l := by rw [hq]; exact List.mem_cons_self ..
   obtain ⟨v, hv, hm⟩ := mem_namesL.1 this
   have : m ∈ SV.namesL cs := mem_namesL.2 ⟨v, hl v hv, hm⟩
   rw [hnm] at this; cases this
 unfold pickCs at hr
 split at hr
 ·rename_i ha
  split at hr
  ·rename_i hle
   subst hr
   have hle' : c + ti.size ≤ cs.length := Nat.le_of_ble_eq_true hle
   refine .inl ⟨_, rfl, hk _ ?_ (by simp only [SV.names]; exact hsub _ (fun v hv => List.mem_of_mem_drop (List.mem_of_mem_take hv)))⟩
   have := run_loadVar_mid (P := P) w b (o + c) t (SV.denL ρ ((cs.drop c).take ti.size)) d ?_ hd (by rw [← hag]; exact ha) (by rw [hi]; simp [hsz, denL_length]; omega)
   ·simpa [SV.den] using this
   ·intro j v hj
    rw [denL_take, denL_drop, he, List.getElem?_take] at hj
    split at hj
    ·rw [List.getElem?_drop] at hj
     rw [Nat.add_assoc]; exact hc _ _ hj
    ·cases hj
  ·subst hr; exact .inr ⟨_, rfl⟩
 ·rename_i ha
  split at hr
  ·rename_i v hv
   subst hr
   rw [nth_eq] at hv
   refine .inl ⟨_, rfl, hk _ ?_ ?_⟩
   ·have hr : d.isRow = false := by rw [← hag]; simpa using ha
    have : w.cell? ⟨b, o + c, none⟩ = some (v.den ρ) := hc c _ (by rw [← he, denL_get, hv]; rfl)
    simp [loadVar, run_isAgg hd, hr, this]
   ·have := hsub [v] (fun u hu => by rw [List.mem_singleton] at hu; subst hu; exact List.mem_of_getElem? hv)
    simpa [SV.namesL] using this
  ·subst hr; exact .inr ⟨_, rfl⟩
theorem load_ok (hT : T.Ok P) (hρ : ρ.Ok) (hp : Holds ρ pc) (hFg : ρ.z.F = T.orac.F) (hrom : RomOk T.orac b0 ρ) (H : HeapR ρ b0 h w) (hn : HNames nx h) (hsl : SlotsR ρ sl a.tmps) (hs : SNames nx sl) (t : TypeId) (x : Operand) :
  ORok P ρ b0 h nx w (do pure (.value (← Instr.loadAt t (a.eval x)))) (opLoad T pc h nx sl t x) := by
 unfold opLoad
 split
 ·rename_i n off hx
  cases hl : loadAt T h nx t n off with
  | val v h' nx' =>
   obtain ⟨h1, rfl, rfl, o, hlk, hsub⟩ := load_run hT H t n off v h' nx' hl
   refine okSame H hn v ?_ (fun m hm => (hn n _ hlk).2 m (hsub m hm))
   simp [Instr.loadAt, Instr.sureAddr, ev_den hsl, hx, SV.den, h1]
  | enter f args => simp [loadAt] at hl; (repeat' split at hl) <;> cases hl
  | round f args => simp [loadAt] at hl; (repeat' split at hl) <;> cases hl
  | split c => trivial
  | fail n => trivial
 ·rename_i r i c hx
  unfold loadRom
  split
  ·rename_i ti esz ks hti hr
   refine needO_ok hρ hp (fun h0 => needO_ok hρ hp (fun h1 => ?_))
   have h0' := le_t h0
   have h1' := nle_t h1
   simp only [IE.den, lenV] at h0' h1'
   obtain ⟨r1, r2, r3, _⟩ := hrom.2 r esz ks hr
   have hlt : (i.den ρ).toNat < (ρ.z.rl r).length := by simp only [LE.den] at h1'; omega
   have he := List.getElem?_eq_getElem hlt
   have hcf := r3 _ (List.mem_of_getElem? he)
   have hden : SV.denL ρ (atomsAt (.rom r) i ks 0) = (ρ.z.rl r)[(i.den ρ).toNat] := by
    have := atomsAt_den (ρ := ρ) (.rom r) i ks 0 _ (by simpa using hcf) (by simp only [LE.den, List.getD, he, Option.getD_some])
    simpa using this
   rcases pick_run (P := P) (w := w) (h := h) (nx := nx) hT hti (b := ρ.z.rb r) (o := ρ.z.ro r + (i.den ρ).toNat * esz) hden (fun j v hj => rom_cell hrom H.g0 hr he hj) (atomsAt_names _ _ _ _) (c := c)
    (fun v => ORok P ρ b0 h nx w (do pure (.value (← Instr.loadAt t (a.eval x)))) (.val v h nx)) (fun v h1 h2 => okSame H hn v (by simp [Instr.loadAt, Instr.sureAddr, ev_den hsl, hx, SV.den, r2, h1]) (fun m hm => by rw [h2] at hm; cases hm)) _ rfl with ⟨v, e, q⟩ | ⟨m, e⟩
   ·rw [e]; exact q
   ·rw [e]; first | done | trivial
  ·trivial
 ·rename_i n z i c hx
  split
  ·unfold loadM
   split
   ·rename_i ti pre l len k post u hti hlk
    split
    ·rename_i hz
     have hz' : z = 1 := by simpa using hz
     subst hz'
     split
     ·rename_i hc
      have hc' : c = pre.length := by simpa using hc
      subst hc'
      refine needO_ok hρ hp (fun h0 => needO_ok hρ hp (fun h1 => ?_))
      have h0' := le_t h0
      have h1' := nle_t h1
      obtain ⟨obj, ho, rfl, ht, hlen⟩ := H.at_ n _ hlk
      rw [lit_den] at h0' h1'
      have hlt : (i.den ρ).toNat < (l.den ρ).length := by omega
      have he := List.getElem?_eq_getElem hlt
      have hcf := ht _ (List.mem_of_getElem? he)
      split
      ·rename_i cs hel
       have hden := elemAt_den hρ hp l i cs _ hel h0' he hcf
       rcases pick_run (P := P) (w := w) (h := h) (nx := nx) hT hti (b := ρ.a n) (o := (i.den ρ).toNat * 1 + pre.length) (cs := cs) hden (fun j v hj => mix_cell H hlk he hj) (elemAt_names _ _ _ hel) (c := 0)
        (fun v => ORok P ρ b0 h nx w (do pure (.value (← Instr.loadAt t (a.eval x)))) (.val v h nx)) (fun v h1 h2 => okSame H hn v (by simp [Instr.loadAt, Instr.sureAddr, ev_den hsl, hx, SV.den] at h1 ⊢; simp [h1]) (fun m hm => by rw [h2] at hm; cases hm)) _ rfl with ⟨v, e, q⟩ | ⟨m, e⟩
       ·rw [e]; exact q
       ·rw [e]; first | done | trivial
      ·trivial
      ·trivial
     ·trivial
    ·trivial
   ·trivial
  ·unfold loadL
   split
   ·rename_i ti l tot ks u cn zs hti hlk
    split
    ·rename_i hz
     have hz' : zs = z := by simpa using hz
     subst hz'
     refine needO_ok hρ hp (fun h0 => needO_ok hρ hp (fun h1 => ?_))
     have h0' := le_t h0
     have h1' := nle_t h1
     obtain ⟨obj, ho, rest, lo, hi, rfl, _, _, _, _, hks, ht, htot⟩ := H.at_ n _ hlk
     rw [lit_den] at h0'
     rw [htot] at h1'
     have hlt : (i.den ρ).toNat < (l.den ρ).length := by omega
     have he := List.getElem?_eq_getElem hlt
     have hcf := ht _ (List.mem_of_getElem? he)
     split
     ·rename_i cs hel
      have hden := elemAt_den hρ hp l i cs _ hel h0' he hcf
      rcases pick_run (P := P) (w := w) (h := h) (nx := nx) hT hti (b := ρ.a n) (o := (i.den ρ).toNat * zs) (cs := cs) hden (fun j v hj => rowl_cell H hlk he hj) (elemAt_names _ _ _ hel) (c := c)
       (fun v => ORok P ρ b0 h nx w (do pure (.value (← Instr.loadAt t (a.eval x)))) (.val v h nx)) (fun v h1 h2 => okSame H hn v (by simp [Instr.loadAt, Instr.sureAddr, ev_den hsl, hx, SV.den, h1]) (fun m hm => by rw [h2] at hm; cases hm)) _ rfl with ⟨v, e, q⟩ | ⟨m, e⟩
      ·rw [e]; exact q
      ·rw [e]; first | done | trivial
     ·trivial
     ·trivial
    ·trivial
   ·trivial
 ·rename_i g off hx
  unfold loadG
  split
  ·rename_i ti cs hti hlk
   have hden : SV.denL ρ (cs.map ofScalar) = cs := by
    rw [denL_eq, List.map_map]
    conv => rhs; rw [← List.map_id cs]
    exact List.map_congr_left fun v _ => ofScalar_den ρ v
   have hnm : SV.namesL (cs.map ofScalar) = [] := by
    rw [namesL_eq, List.flatMap_map]
    simp [ofScalar_names]
   rcases pick_run (P := P) (w := w) (h := h) (nx := nx) hT hti (b := g) (o := 0) hden (fun j v hj => by
     obtain ⟨c1, c2⟩ := GlobOk.cell hrom.1 (by rw [hFg]; exact hlk) hj
     rw [Nat.zero_add]
     exact grown_cell H.g0 c1 c2) hnm (c := off)
    (fun v => ORok P ρ b0 h nx w (do pure (.value (← Instr.loadAt t (a.eval x)))) (.val v h nx)) (fun v h1 h2 => okSame H hn v (by simp [Instr.loadAt, Instr.sureAddr, ev_den hsl, hx, SV.den, Nat.zero_add] at h1 ⊢; simp [h1]) (fun m hm => by rw [h2] at hm; cases hm)) _ rfl with ⟨v, e, q⟩ | ⟨m, e⟩
   ·rw [e]; exact q
   ·rw [e]; first | done | trivial
  ·trivial
 ·trivial
theorem storeCells_run (g o : Nat) (t : TypeId) (fz : Nat × Nat) : ∀ (vs : List Value) (i : Nat) (cur : Array Value) (w : World), w.heap[g]? = some (.cells cur t fz) → (fz.2 ≤ fz.1 ∨ cur.size ≤ fz.1) → o + i + vs.length ≤ cur.size → (∀ v ∈ vs, v.oneCell' = true) →
  (storeCells ⟨g, o, none⟩ vs i).run P w = .ok () (w.setRow g (cur.toList.take (o + i) ++ vs ++ cur.toList.drop (o + i + vs.length)).toArray)
 | [], i, cur, w, hg, _, _, _ => by
  simp only [storeCells, List.append_nil, List.length_nil, Nat.add_zero, List.take_append_drop, Array.toArray_toList]
  rw [setRow_self w g cur t fz hg]
  rfl
 | v :: rest, i, cur, w, hg, hfz, hl, h1 => by
  have hi : o + i < cur.size := by simp at hl; omega
  have hadd : (⟨g, o, none⟩ : Addr).add i = ⟨g, o + i, none⟩ := by unfold Addr.add; split <;> simp_all
  have hcell : w.cell? ⟨g, o + i, none⟩ = some cur[o + i] := by simp [World.cell?, hg, hi]
  have hfro : w.frozen? ⟨g, o + i, none⟩ = false := by
   obtain ⟨lo, hi'⟩ := fz
   simp only [World.frozen?, hg, Bool.and_eq_false_iff, decide_eq_false_iff_not]
   simp only at hfz
   omega
  have hst : (store ((⟨g, o, none⟩ : Addr).add i) v).run P w = .ok () (w.setRow g (cur.setIfInBounds (o + i) v)) := by
   rw [hadd, run_store P w _ v _ (h1 v (by simp)), hcell]
   simp [hfro, setCell_eq_setRow w g (o + i) cur t fz v hg]
  have ih := storeCells_run g o t fz rest (i + 1) (cur.setIfInBounds (o + i) v) (w.setRow g (cur.setIfInBounds (o + i) v)) (setRow_heap w g cur _ t _ hg) (by simpa using hfz) (by simp at hl ⊢; omega) (fun x hx => h1 x (by simp [hx]))
  simp only [storeCells, Sem.run_bind, hst, Result.andThen_ok, ih, setRow_setRow]
  congr 3
  have e := list_seg_step cur.toList (o + i) v rest (by simp at hl ⊢; omega)
  simpa [Array.toList_setIfInBounds, Nat.add_assoc] using e
theorem write_ok (H : HeapR ρ b0 h w) (hn : HNames nx h) {n off : Nat} {o : SObj} {cs vs : List SV} (hlk : lk h n = some o) (hcs : o.cs = some cs) (hle : off + vs.length ≤ cs.length) (h1 : allOne vs = true) (hvn : ∀ m ∈ SV.namesL vs, m < nx) :
  ∃ w', (storeCells ⟨ρ.a n, off, none⟩ (SV.denL ρ vs)).run P w = .ok () w' ∧ Move ρ ρ b0 h (up h n (o.put (puts cs off vs))) nx nx w w' := by
 obtain ⟨obj, ho, hR⟩ := H.at_ n _ hlk
 obtain ⟨rest, t, lo, hi, rfl, hfz, hput, hsub, hpn⟩ := obj_cells hR hcs
 have hst := storeCells_run (P := P) (ρ.a n) off t (lo, hi) (SV.denL ρ vs) 0 _ w ho (by simpa [denL_length] using hfz) (by simp [denL_length]; omega) (allOne_den ρ vs h1)
 simp only [Nat.add_zero] at hst
 have hpl : (puts cs off vs).length = cs.length := by rw [puts_eq vs cs off hle]; simp; omega
 have hw : w.setRow (ρ.a n) (((SV.denL ρ cs).toArray ++ rest).toList.take off ++ SV.denL ρ vs ++ ((SV.denL ρ cs).toArray ++ rest).toList.drop (off + (SV.denL ρ vs).length)).toArray = World.putO w (ρ.a n) (.cells ((SV.denL ρ (puts cs off vs)).toArray ++ rest) t (lo, hi)) := by
  have hlt := H.lt hlk
  have hv : w.heap[ρ.a n] = .cells ((SV.denL ρ cs).toArray ++ rest) t (lo, hi) := (Array.getElem?_eq_some_iff.1 ho).2
  have he : (((SV.denL ρ cs).toArray ++ rest).toList.take off ++ SV.denL ρ vs ++ ((SV.denL ρ cs).toArray ++ rest).toList.drop (off + (SV.denL ρ vs).length)).toArray = (SV.denL ρ (puts cs off vs)).toArray ++ rest := by
   apply Array.ext'
   rw [puts_eq vs cs off hle, denL_append, denL_append, denL_take, denL_drop, denL_length]
   simp only [Array.toList_append, List.append_assoc]
   rw [List.take_append_of_le_length (by simp [denL_length]; omega), List.drop_append_of_le_length (by simp [denL_length]; omega)]
  rw [he]
  unfold World.setRow World.putO
  congr 1
  apply Array.ext_getElem?
  intro k
  rw [Array.getElem?_modify, Array.getElem?_setIfInBounds]
  by_cases hk : ρ.a n = k
  ·subst hk
   simp [hlt, hv]
  ·simp [hk]
 refine ⟨_, hst, ?_⟩
 rw [hw]
 refine Move.upd H hn hlk (o.put (puts cs off vs)) _ (hput _ hpl) ?_
 intro m hm
 rcases hpn _ m hm with hm | hm
 ·rw [puts_eq vs cs off hle] at hm
  obtain ⟨v, hv, hm2⟩ := mem_namesL.1 hm
  rcases List.mem_append.1 hv with hv | hv
  ·rcases List.mem_append.1 hv with hv | hv
   ·exact (hn n _ hlk).2 m (hsub m (mem_namesL.2 ⟨v, List.mem_of_mem_take hv, hm2⟩))
   ·exact hvn m (mem_namesL.2 ⟨v, hv, hm2⟩)
  ·exact (hn n _ hlk).2 m (hsub m (mem_namesL.2 ⟨v, List.mem_of_mem_drop hv, hm2⟩))
 ·exact (hn n _ hlk).2 m hm
theorem rowl_write (H : HeapR ρ b0 h w) (hn : HNames nx h) {n off : Nat} {l : LE} {tot : IE} {ks : List CK} {t : TypeId} {cn sz : Nat} (hlk : lk h n = some (.rowl l tot ks t cn sz)) {vs : List Value} (hle : off + vs.length ≤ (l.den ρ).flatten.length) (h1 : ∀ v ∈ vs, v.oneCell' = true)
  {l' : LE} (hf : (l'.den ρ).flatten = (l.den ρ).flatten.take off ++ vs ++ (l.den ρ).flatten.drop (off + vs.length)) (ht : Typed ks (l'.den ρ)) (hl : (l'.den ρ).length = (l.den ρ).length) :
  ∃ w', (storeCells ⟨ρ.a n, off, none⟩ vs).run P w = .ok () w' ∧ Move ρ ρ b0 h (up h n (.rowl l' tot ks t cn sz)) nx nx w w' := by
 obtain ⟨obj, ho, rest, lo, hi, rfl, hfz, hcap, hmx, hpos, hks, ht0, htot⟩ := H.at_ n _ hlk
 have hst := storeCells_run (P := P) (ρ.a n) off t (lo, hi) vs 0 _ w ho (by rw [Array.size_append, List.size_toArray]; exact hfz) (by rw [Array.size_append, List.size_toArray]; omega) h1
 simp only [Nat.add_zero] at hst
 have hll : (l'.den ρ).flatten.length = (l.den ρ).flatten.length := by rw [hf, List.length_append, List.length_append, List.length_take, List.length_drop]; omega
 have hw : w.setRow (ρ.a n) (((l.den ρ).flatten.toArray ++ rest).toList.take off ++ vs ++ ((l.den ρ).flatten.toArray ++ rest).toList.drop (off + vs.length)).toArray = World.putO w (ρ.a n) (.cells ((l'.den ρ).flatten.toArray ++ rest) t (lo, hi)) := by
  have hlt := H.lt hlk
  have hv : w.heap[ρ.a n] = .cells ((l.den ρ).flatten.toArray ++ rest) t (lo, hi) := (Array.getElem?_eq_some_iff.1 ho).2
  have he : (((l.den ρ).flatten.toArray ++ rest).toList.take off ++ vs ++ ((l.den ρ).flatten.toArray ++ rest).toList.drop (off + vs.length)).toArray = (l'.den ρ).flatten.toArray ++ rest := by
   apply Array.ext'
   rw [hf]
   simp only [Array.toList_append, List.append_assoc]
   rw [List.take_append_of_le_length (by omega), List.drop_append_of_le_length (by omega)]
  rw [he]
  unfold World.setRow World.putO
  congr 1
  apply Array.ext_getElem?
  intro k
  rw [Array.getElem?_modify, Array.getElem?_setIfInBounds]
  by_cases hk : ρ.a n = k
  ·subst hk
   simp [hlt, hv]
  ·simp [hk]
 refine ⟨_, hst, ?_⟩
 rw [hw]
 refine Move.upd H hn hlk (.rowl l' tot ks t cn sz) _ ⟨rest, lo, hi, rfl, by rw [hll]; exact hfz, by rw [hll]; exact hcap, hmx, hpos, hks, ht, by rw [hl]; exact htot⟩ ?_
 intro m hm
 exact (hn n _ hlk).2 m (by simpa [SObj.names] using hm)
theorem mix_write (H : HeapR ρ b0 h w) (hn : HNames nx h) {n i : Nat} {pre post : List SV} {l l' : LE} {len : Nat} {k : IntKind} {t : TypeId} (hlk : lk h n = some (.mix pre l len k post t)) {d : List Value} (hi : i < len) (hd : conf [.int k] d = true)
  (hl' : l'.den ρ = (l.den ρ).set i d) : ∃ w', (storeCells ⟨ρ.a n, i * 1 + pre.length, none⟩ d).run P w = .ok () w' ∧ Move ρ ρ b0 h (up h n (.mix pre l' len k post t)) nx nx w w' := by
 obtain ⟨obj, ho, rfl, ht, hlen⟩ := H.at_ n _ hlk
 have hdl : d.length = 1 := by simpa using conf_length hd
 have hfl : (l.den ρ).flatten.length = (l.den ρ).length := by rw [flat_len ht]; simp
 have hst := storeCells_run (P := P) (ρ.a n) (i * 1 + pre.length) t (0, 0) d 0 _ w ho (.inl (Nat.le_refl _)) (by simp [denL_length, hfl]; omega) (conf_one hd)
 have hset := flat_set ht (i := i) (e := d) (by omega) hd
 simp only [List.length_cons, List.length_nil, Nat.zero_add, Nat.mul_one, hdl] at hset
 have hw : w.setRow (ρ.a n) (((SV.denL ρ pre ++ (l.den ρ).flatten ++ SV.denL ρ post).toArray).toList.take (i * 1 + pre.length + 0) ++ d ++ ((SV.denL ρ pre ++ (l.den ρ).flatten ++ SV.denL ρ post).toArray).toList.drop (i * 1 + pre.length + 0 + d.length)).toArray = World.putO w (ρ.a n) (.cells (SV.denL ρ pre ++ (l'.den ρ).flatten ++ SV.denL ρ post).toArray t (0, 0)) := by
  have hlt := H.lt hlk
  have hv : w.heap[ρ.a n] = .cells (SV.denL ρ pre ++ (l.den ρ).flatten ++ SV.denL ρ post).toArray t (0, 0) := (Array.getElem?_eq_some_iff.1 ho).2
  have hpl : (SV.denL ρ pre).length = pre.length := denL_length ρ pre
  have he : (SV.denL ρ pre ++ (l.den ρ).flatten ++ SV.denL ρ post).take (i * 1 + pre.length + 0) ++ d ++ (SV.denL ρ pre ++ (l.den ρ).flatten ++ SV.denL ρ post).drop (i * 1 + pre.length + 0 + d.length) = SV.denL ρ pre ++ (l'.den ρ).flatten ++ SV.denL ρ post := by
   rw [hl', hset, hdl]
   generalize SV.denL ρ pre = A at *
   generalize (l.den ρ).flatten = F at *
   generalize SV.denL ρ post = B at *
   rw [List.append_assoc A F B, List.take_append, List.drop_append, hpl, List.take_of_length_le (by omega), List.drop_eq_nil_of_le (as := A) (by omega), show i * 1 + pre.length + 0 - pre.length = i by omega, show i * 1 + pre.length + 0 + 1 - pre.length = i + 1 by omega, List.take_append_of_le_length (by omega), List.drop_append_of_le_length (by omega)]
   simp only [List.append_assoc, List.nil_append]
  rw [List.toList_toArray, he]
  unfold World.setRow World.putO
  congr 1
  apply Array.ext_getElem?
  intro j
  rw [Array.getElem?_modify, Array.getElem?_setIfInBounds]
  by_cases hk : ρ.a n = j
  ·subst hk
   simp [hlt, hv]
  ·simp [hk]
 refine ⟨_, hst, ?_⟩
 rw [hw]
 refine Move.upd H hn hlk (.mix pre l' len k post t) _ ⟨rfl, by rw [hl']; exact ht.set _ hd, by rw [hl', List.length_set]; exact hlen⟩ ?_
 intro m hm
 exact (hn n _ hlk).2 m (by simpa [SObj.names] using hm)
theorem store_ok (hT : T.Ok P) (hρ : ρ.Ok) (hp : Holds ρ pc) (hrom : RomOk T.orac b0 ρ) (H : HeapR ρ b0 h w) (hn : HNames nx h) (hsl : SlotsR ρ sl a.tmps) (hs : SNames nx sl) (t : TypeId) (x y : Operand) :
  ORok P ρ b0 h nx w (do Instr.storeAt t (a.eval x) (a.eval y); pure .skip) (opStore T pc h nx sl t x y) := by
 unfold opStore
 split
 ·rename_i n off hx
  unfold storeAt
  split
  ·rename_i ti o vs hti hlk hvs
   split
   ·rename_i cs hcs
    split
    ·rename_i h1
     split
     ·rename_i h2
      split
      ·rename_i h3
       have h1' : vs.length = ti.size := by simpa using h1
       have h2' : off + vs.length ≤ cs.length := Nat.le_of_ble_eq_true h2
       obtain ⟨c1, c2⟩ := cells_den ρ _ _ hvs
       obtain ⟨i, z, hi, hsz, _, _, _⟩ := (hT.ty t ti hti).info
       obtain ⟨w', hst, hmv⟩ := write_ok (P := P) H hn hlk hcs h2' h3 (fun m hm => ev_names hs y m (c2 ▸ hm))
       refine ⟨ρ, w', _, ?_, .inr ⟨rfl, rfl⟩, hmv, fun m hm => by simp [SV.names, SV.namesL] at hm⟩
       simp [Instr.storeAt, Instr.sureAddr, ev_den hsl, hx, SV.den, storeVar, c1, denL_length, h1', run_sizeOf' hi, hsz, hst]
      ·trivial
     ·trivial
    ·trivial
   ·trivial
  ·trivial
 ·rename_i n z i c hx
  split
  ·unfold storeM
   split
   ·rename_i ti pre l len k post u vs hti hlk hvs
    obtain ⟨c1, c2⟩ := cells_den ρ _ _ hvs
    obtain ⟨inf, zv, hi, hsz, _, _, _⟩ := (hT.ty t ti hti).info
    split
    ·rename_i hz
     have hz' : z = 1 := by simpa using hz
     subst hz'
     split
     ·rename_i hc
      have hc' : c = pre.length := by simpa using hc
      subst hc'
      split
      ·rename_i h1
       have h1' : vs.length = ti.size := by simpa using h1
       refine needO_ok hρ hp (fun h0 => needO_ok hρ hp (fun h2 => ?_))
       have h0' := le_t h0
       have h2' := nle_t h2
       rw [lit_den] at h0' h2'
       split
       ·rename_i al hal
        obtain ⟨q1, q2⟩ := toAL_ok hρ hp hrom.typed _ _ _ hal
        obtain ⟨w', hst, hmv⟩ := mix_write (P := P) (i := (i.den ρ).toNat) (d := SV.denL ρ vs) (l' := setE l i al) H hn hlk (by omega) q2 (by rw [setE_den, q1])
        refine ⟨ρ, w', _, ?_, .inr ⟨rfl, rfl⟩, hmv, fun m hm => by simp [SV.names, SV.namesL] at hm⟩
        rw [Nat.mul_one] at hst
        simp [Instr.storeAt, Instr.sureAddr, ev_den hsl, hx, SV.den, storeVar, c1, denL_length, h1', run_sizeOf' hi, hsz, hst]
       ·trivial
      ·trivial
     ·trivial
    ·trivial
   ·trivial
  ·unfold storeL
   split
   ·rename_i ti l tot ks u cn zs vs hti hlk hvs
    obtain ⟨c1, c2⟩ := cells_den ρ _ _ hvs
    obtain ⟨inf, zv, hi, hsz, _, _, _⟩ := (hT.ty t ti hti).info
    split
    ·rename_i hz
     have hz' : zs = z := by simpa using hz
     subst hz'
     split
     ·rename_i h1
      have h1' : vs.length = ti.size := by simpa using h1
      refine needO_ok hρ hp (fun h0 => needO_ok hρ hp (fun h2 => ?_))
      have h0' := le_t h0
      have h2' := nle_t h2
      obtain ⟨obj, ho, rest, lo, hi', rfl, _, _, _, hpos, hks, ht, htot⟩ := H.at_ n _ hlk
      rw [lit_den] at h0'
      rw [htot] at h2'
      have hlt : (i.den ρ).toNat < (l.den ρ).length := by omega
      have he := List.getElem?_eq_getElem hlt
      have hcf := ht _ (List.mem_of_getElem? he)
      -- an element that is put
      have key : ∀ (cs : List SV) (d : List Value), SV.denL ρ cs = d → (∀ (al : AL), toAL T.orac.rom pc ks cs = some al → conf ks d = true → ((l.den ρ).set (i.den ρ).toNat d).flatten = (l.den ρ).flatten.take ((i.den ρ).toNat * zs + c) ++ SV.denL ρ vs ++ (l.den ρ).flatten.drop ((i.den ρ).toNat * zs + c + (SV.denL ρ vs).length)) →
        (∀ v ∈ SV.denL ρ vs, conf ks d = true → v ∈ d) → (conf ks d = true → c + vs.length ≤ zs) → ORok P ρ b0 h nx w (do Instr.storeAt t (a.eval x) (a.eval y); pure .skip) (storeEl T pc h nx n l tot ks u cn zs i cs) := by
       intro cs d hd hfl hmem hcl
       unfold storeEl
       split
       ·rename_i al hal
        obtain ⟨q1, q2⟩ := toAL_ok hρ hp hrom.typed _ _ _ hal
        rw [hd] at q1 q2
        have hset : (setE l i al).den ρ = (l.den ρ).set (i.den ρ).toNat d := by rw [setE_den, q1]
        have hfl' := hfl al hal q2
        have hfll : (l.den ρ).flatten.length = (l.den ρ).length * zs := by rw [flat_len ht, hks]
        have hrow : ((i.den ρ).toNat + 1) * zs ≤ (l.den ρ).length * zs := Nat.mul_le_mul_right _ hlt
        have := hcl q2
        obtain ⟨w', hst, hmv⟩ := rowl_write (P := P) (off := (i.den ρ).toNat * zs + c) (vs := SV.denL ρ vs) H hn hlk (by rw [hfll, denL_length]; have h3 := hrow; rw [Nat.add_mul, Nat.one_mul] at h3; exact Nat.le_trans (by omega) h3) (fun v hv => conf_one q2 v (hmem v hv q2)) (l' := setE l i al) (by rw [hset]; exact hfl') (by rw [hset]; exact ht.set _ q2) (by rw [hset]; simp)
        refine ⟨ρ, w', _, ?_, .inr ⟨rfl, rfl⟩, hmv, fun m hm => by simp [SV.names, SV.namesL] at hm⟩
        simp [Instr.storeAt, Instr.sureAddr, ev_den hsl, hx, SV.den, storeVar, c1, denL_length, h1', run_sizeOf' hi, hsz, hst]
       ·trivial
      have hc0 : ∀ d : List Value, conf ks d = true → d.length = zs := fun d hd => by rw [conf_length hd, hks]
      have part : ORok P ρ b0 h nx w (do Instr.storeAt t (a.eval x) (a.eval y); pure .skip) (storePart T pc h nx n l tot ks u cn zs i c vs) := by
       unfold storePart
       split
       ·rename_i cs hel
        have hden := elemAt_den hρ hp l i cs _ hel h0' he hcf
        split
        ·rename_i hle
         have hle' := Nat.le_of_ble_eq_true hle
         have hcs := elemAt_length hden hcf
         have hpd : SV.denL ρ (puts cs c vs) = ((l.den ρ)[(i.den ρ).toNat]).take c ++ SV.denL ρ vs ++ ((l.den ρ)[(i.den ρ).toNat]).drop (c + vs.length) := by
          rw [puts_eq vs cs c hle', denL_append, denL_append, denL_take, denL_drop, hden]
         refine key (puts cs c vs) _ hpd ?_ (fun v hv _ => by simp [hv]) (fun _ => by rw [hcs, hks] at hle'; exact hle')
         intro al _ hcd
         rw [flat_set ht hlt hcd, hks, conf_length hcd, hks]
         have hg : (l.den ρ).flatten = (l.den ρ).flatten.take ((i.den ρ).toNat * zs) ++ (l.den ρ)[(i.den ρ).toNat] ++ (l.den ρ).flatten.drop ((i.den ρ).toNat * zs + zs) := by
          have := flat_set ht hlt hcf
          rw [hks, hc0 _ hcf] at this
          rw [← this]; simp
         have hel2 := hc0 _ hcf
         have hrow : ((i.den ρ).toNat + 1) * zs ≤ (l.den ρ).length * zs := Nat.mul_le_mul_right _ hlt
         have hfl : (l.den ρ).flatten.length = (l.den ρ).length * zs := by rw [flat_len ht, hks]
         have hol : (i.den ρ).toNat * zs + zs ≤ (l.den ρ).flatten.length := by rw [hfl]; rw [Nat.add_mul, Nat.one_mul] at hrow; exact hrow
         clear hrow hfl
         generalize (l.den ρ)[(i.den ρ).toNat] = E at *
         generalize (l.den ρ).flatten = Fl at *
         generalize (i.den ρ).toNat * zs = o at *
         have t1 : (Fl.take o).length = o := by simp; omega
         rw [hcs, hks] at hle'
         rw [denL_length]
         have e1 : Fl.take (o + c) = Fl.take o ++ E.take c := by
          conv => lhs; rw [hg]
          rw [List.append_assoc, List.take_append, t1, List.take_of_length_le (by omega), show o + c - o = c by omega, List.take_append_of_le_length (by omega)]
         have e2 : Fl.drop (o + c + vs.length) = E.drop (c + vs.length) ++ Fl.drop (o + zs) := by
          conv => lhs; rw [hg]
          rw [List.append_assoc, List.drop_append, t1, List.drop_eq_nil_of_le (by omega), List.nil_append, show o + c + vs.length - o = c + vs.length by omega, List.drop_append_of_le_length (by omega)]
         rw [e1, e2]
         simp only [List.append_assoc]
        ·trivial
       ·trivial
       ·trivial
      split
      ·rename_i hfull
       have hfull' : vs.length + c = zs := by simpa using hfull
       split
       ·rename_i hc
        have hc' : c = 0 := by simpa using hc
        subst hc'
        refine key vs _ rfl ?_ (fun v hv _ => hv) (fun _ => by omega)
        intro al _ hcd
        rw [flat_set ht hlt hcd, hks]; rfl
       ·exact part
      ·exact part
     ·trivial
    ·trivial
   ·trivial
 ·trivial
theorem nil_ok (H : HeapR ρ b0 h w) (hn : HNames nx h) (hsl : SlotsR ρ sl a.tmps) (hs : SNames nx sl) (dst : Option Tmp) (ty : TypeId) (pos : String) (af : Array Edge) (gd : Option (Nat × Bool)) (x : Operand) :
  ORok P ρ b0 h nx w (execOp a.eval ⟨dst, .nilCheck x, ty, pos, af, gd⟩) (opNil h nx sl x) := by
 have hx := ev_names hs x
 unfold opNil
 split
 ·rename_i n off he
  rw [he] at hx
  exact okSame H hn _ (by simp [execOp, ev_den hsl, he, SV.den]) hx
 ·rename_i r i c he
  rw [he] at hx
  exact okSame H hn _ (by simp [execOp, ev_den hsl, he, SV.den]) hx
 ·rename_i n z i c he
  rw [he] at hx
  exact okSame H hn _ (by simp [execOp, ev_den hsl, he, SV.den]) hx
 ·rename_i f p q he
  rw [he] at hx
  exact okSame H hn _ (by simp [execOp, ev_den hsl, he, SV.den, fnDen]) hx
 ·trivial
theorem extract_ok (H : HeapR ρ b0 h w) (hn : HNames nx h) (hsl : SlotsR ρ sl a.tmps) (hs : SNames nx sl) (x : Operand) (i : Nat) :
  ORok P ρ b0 h nx w (do pure (.value (← Instr.extract (a.eval x) i))) (opExtract h nx sl x i) := by
 have hx := ev_names hs x
 unfold opExtract
 split
 ·rename_i vs he
  rw [he] at hx
  split
  ·rename_i v hv
   rw [nth_eq] at hv
   refine okSame H hn _ ?_ (fun m hm => hx m (by simp only [SV.names]; exact mem_namesL.2 ⟨v, List.mem_of_getElem? hv, hm⟩))
   simp [ev_den hsl, he, SV.den, Instr.extract, denL_get, hv]
  ·trivial
 ·trivial
theorem func_ok (H : HeapR ρ b0 h w) (hn : HNames nx h) (hsl : SlotsR ρ sl a.tmps) (hs : SNames nx sl) (fn : Fn) (f c : Array Operand) :
  ORok P ρ b0 h nx w (do pure (.value (← Instr.makeFunc fn (f.map a.eval) (c.map a.eval)))) (opFunc h nx sl fn f c) := by
 unfold opFunc
 have e : ∀ l : Array Operand, (SV.denL ρ (l.toList.map (ev sl))).toArray = l.map a.eval := by
  intro l
  rw [denL_eq, List.map_map]
  apply Array.ext'
  simp
  exact fun x _ => (ev_den hsl x).symm
 have hN : ∀ l : Array Operand, ∀ m ∈ SV.namesL (l.toList.map (ev sl)), m < nx := by
  intro l m hm
  obtain ⟨v, hv, h2⟩ := mem_namesL.1 hm
  obtain ⟨x, _, rfl⟩ := List.mem_map.1 hv
  exact ev_names hs x m h2
 split
 ·trivial
 ·rename_i hy
  refine okSame H hn _ ?_ ?_
  ·have : fnDen ρ fn = fn := by cases fn <;> first | rfl | (exact absurd rfl (hy _))
   simp [SV.den, this, e, Instr.makeFunc]
  ·intro m hm
   cases fn <;> simp only [SV.names, List.mem_append] at hm <;> first
    | (exact absurd rfl (hy _))
    | (rcases hm with hm | hm <;> exact hN _ m hm)
end
end
end Go.Proofs.Ythenenacmiiphaa.Sx
