/- A reckoner of Go's small steps over letters: what its words mean. No condition. -/
import Derived.Test.YtjgkaimgocnkmabSx3
set_option linter.unusedVariables false
set_option linter.unusedSimpArgs false
namespace Go.Proofs.Ytjgkaimgocnkmab.Sx
open Go

section lists
variable {α : Type}
theorem nth_eq (l : List α) (n : Nat) : nth l n = l[n]? := by
  induction l generalizing n with
  | nil => simp [nth]
  | cons x l ih =>
    cases n with
    | zero => rfl
    | succ n => have := ih n; simp only [nth] at this ⊢; simpa using this
theorem put_eq (l : List α) (n : Nat) (v : α) : put l n v = l.set n v := by
  induction l generalizing n with
  | nil => simp [put]
  | cons x l ih =>
    cases n with
    | zero => rfl
    | succ n => have := ih n; simp only [put] at this ⊢; simpa using this
theorem lk_nil (n : Nat) : lk ([] : List (Nat × α)) n = none := rfl
theorem lk_cons (m : Nat) (o : α) (l : List (Nat × α)) (n : Nat) : lk ((m, o) :: l) n = if m = n then some o else lk l n := by
  show Bool.rec (motive := fun _ => Option α) _ _ (Nat.beq m n) = _
  by_cases h : m = n
  · subst h; simp
  · have : Nat.beq m n = false := by cases hb : Nat.beq m n <;> simp_all
    rw [this, if_neg h]; rfl
theorem up_nil (n : Nat) (v : α) : up ([] : List (Nat × α)) n v = [] := rfl
theorem up_cons (m : Nat) (o : α) (l : List (Nat × α)) (n : Nat) (v : α) : up ((m, o) :: l) n v = if m = n then (n, v) :: l else (m, o) :: up l n v := by
  show Bool.rec (motive := fun _ => List (Nat × α)) _ _ (Nat.beq m n) = _
  by_cases h : m = n
  · subst h; simp
  · have : Nat.beq m n = false := by cases hb : Nat.beq m n <;> simp_all
    rw [this, if_neg h]; rfl
theorem lk_up (l : List (Nat × α)) (n m : Nat) (v : α) : lk (up l n v) m = if n = m then (lk l n).map (fun _ => v) else lk l m := by
  induction l with
  | nil => simp [up_nil, lk_nil]
  | cons p l ih =>
    obtain ⟨k, o⟩ := p
    rw [up_cons]
    by_cases h : k = n
    · subst h
      simp only [if_true, lk_cons]
      split <;> simp_all
    · rw [if_neg h, lk_cons, lk_cons, lk_cons, ih, if_neg h]
      by_cases h2 : k = m
      · subst h2
        simp [Ne.symm h]
      · simp [h2]
theorem fnat_eq {β : Type} (n : Nat) (k : Nat → β) : fnat n k = k n := by cases n <;> rfl
theorem fint_eq {β : Type} (n : Int) (k : Int → β) : fint n k = k n := by cases n <;> simp [fint, fnat_eq]
theorem fL_eq {β : Type} (l : List α) (k : List α → β) : fL l k = k l := by
  induction l generalizing k with
  | nil => rfl
  | cons x l ih => simp [fL, ih]
end lists
theorem fIE_eq {β : Type} (e : IE) : ∀ k : IE → β, fIE e k = k e := by
  induction e <;> intro k <;> simp_all [fIE, fint_eq]
theorem fBE_eq {β : Type} (c : BE) : ∀ k : BE → β, fBE c k = k c := by
  induction c <;> intro k <;> simp_all [fBE, fIE_eq]
  split <;> rfl
theorem fSV_eq {β : Type} (v : SV) (k : SV → β) : fSV v k = k v := by
  cases v <;> simp [fSV, fIE_eq, fBE_eq, fnat_eq]

/- slots -/
theorem get2_eq (t : Slots) (i : Nat) : get2 t i = (t[i / 8]?).bind (·[i % 8]?) := by
  unfold get2
  rw [nth_eq]
  show (match t[i / 8]? with | some c => nth c (i % 8) | none => none) = _
  cases t[i / 8]? <;> simp [nth_eq]
theorem get2_put2 (t : Slots) (i j : Nat) (v : SV) : get2 (put2 t i v) j = if i = j then (get2 t j).map (fun _ => v) else get2 t j := by
  unfold put2
  rw [nth_eq]
  show get2 (match t[i / 8]? with | some c => put t (i / 8) (put c (i % 8) v) | none => t) j = _
  cases hc : t[i / 8]? with
  | none =>
    simp only []
    split
    · rename_i h; subst h
      simp [get2_eq, hc]
    · rfl
  | some c =>
    simp only [put_eq, get2_eq]
    have hlt : i / 8 < t.length := (List.getElem?_eq_some_iff.1 hc).1
    by_cases h8 : i / 8 = j / 8
    · rw [← h8, List.getElem?_set_self hlt, hc]
      simp only [Option.bind_some]
      by_cases hm : i % 8 = j % 8
      · have : i = j := by omega
        subst this
        rw [if_pos rfl, List.getElem?_set]
        simp only [if_true]
        split
        · rename_i h; rw [List.getElem?_eq_getElem h]; rfl
        · rename_i h; rw [List.getElem?_eq_none (by omega)]; rfl
      · have : i ≠ j := by rintro rfl; exact hm rfl
        rw [if_neg this, List.getElem?_set_ne hm]
    · have : i ≠ j := by rintro rfl; exact h8 rfl
      rw [if_neg this, List.getElem?_set_ne h8]
theorem get2_one (l : List SV) (h : l.length ≤ 8) (i : Nat) : get2 [l] i = l[i]? := by
  rw [get2_eq]
  by_cases h8 : i < 8
  · rw [show i / 8 = 0 by omega, show i % 8 = i by omega]; rfl
  · have h1 : ([l] : List (List SV))[i / 8]? = none := List.getElem?_eq_none (by simp; omega)
    rw [h1, List.getElem?_eq_none (by omega)]; rfl
theorem get2_chunk (n : Nat) : ∀ (l : List SV), l.length ≤ 8 * n → ∀ i, get2 (chunk n l) i = l[i]? := by
  induction n with
  | zero => intro l h i; have : l = [] := by cases l <;> simp_all
            subst this; simp [chunk, get2_eq]
  | succ n ih =>
    intro l h i
    match l, h with
    | [], h => simp [chunk, get2_eq]
    | a :: b :: c :: d :: e :: f :: g :: h :: l, hl =>
      simp only [chunk]
      have := ih l (by simp at hl; omega) (i - 8)
      by_cases h8 : i < 8
      · have : i / 8 = 0 := by omega
        rw [get2_eq, this]
        simp only [List.getElem?_cons_zero, Option.bind_some]
        have : i % 8 = i := by omega
        rw [this]
        match i, h8 with
        | 0, _ => rfl | 1, _ => rfl | 2, _ => rfl | 3, _ => rfl | 4, _ => rfl | 5, _ => rfl | 6, _ => rfl | 7, _ => rfl
      · obtain ⟨m, rfl⟩ : ∃ m, i = m + 8 := ⟨i - 8, by omega⟩
        simp only [Nat.add_sub_cancel] at this
        rw [get2_eq] at this ⊢
        rw [show (m + 8) / 8 = m / 8 + 1 by omega, show (m + 8) % 8 = m % 8 by omega]
        simp only [List.getElem?_cons_succ]
        exact this
    | [a], hl => exact get2_one _ (by simp) i
    | [a, b], hl => exact get2_one _ (by simp) i
    | [a, b, c], hl => exact get2_one _ (by simp) i
    | [a, b, c, d], hl => exact get2_one _ (by simp) i
    | [a, b, c, d, e], hl => exact get2_one _ (by simp) i
    | [a, b, c, d, e, f], hl => exact get2_one _ (by simp) i
    | [a, b, c, d, e, f, g], hl => exact get2_one _ (by simp) i

/- numbers -/
theorem ileb_iff (a b : Int) : ileb a b = true ↔ a ≤ b := by
  cases a <;> cases b <;> simp [ileb] <;> omega
theorem ileb_false (a b : Int) : ileb a b = false ↔ b < a := by
  rw [← Bool.not_eq_true, ileb_iff]; omega
theorem ieqb_iff (a b : Int) : ieqb a b = true ↔ a = b := by
  cases a <;> cases b <;> simp [ieqb] <;> omega
theorem keq_iff (a b : IntKind) : keq a b = true ↔ a = b := by
  cases a <;> cases b <;> simp [keq, kno]
theorem kmin_eq (k : IntKind) : kmin k = k.min := by cases k <;> simp [kmin, IntKind.min, IntKind.signed, IntKind.bits]
theorem kmax_eq (k : IntKind) : kmax k = k.max := by cases k <;> simp [kmax, IntKind.max, IntKind.signed, IntKind.bits]
theorem wrap_in (k : IntKind) (n : Int) (h1 : kmin k ≤ n) (h2 : n ≤ kmax k) : k.wrap n = n := by
  cases k <;> simp [kmin, kmax, IntKind.wrap, IntKind.signed, IntKind.bits] at * <;> omega
theorem wrap_lo (k : IntKind) (n : Int) : kmin k ≤ k.wrap n := by
  cases k <;> simp [kmin, kmax, IntKind.wrap, IntKind.signed, IntKind.bits] at * <;> omega
theorem wrap_hi (k : IntKind) (n : Int) : k.wrap n ≤ kmax k := by
  cases k <;> simp [kmin, kmax, IntKind.wrap, IntKind.signed, IntKind.bits] at * <;> omega
theorem bop_eq (o p : BinOp) (h : bopno o = bopno p) : o = p := by
  cases o <;> cases p <;> first | rfl | (simp [bopno] at h)
theorem IE.beq_eq : ∀ (a b : IE), a.beq b = true → a = b
  | .lit a, b, h => by cases b <;> simp [IE.beq, ieqb_iff] at h; rw [h]
  | .var k n, b, h => by cases b <;> simp [IE.beq, keq_iff] at h; rw [h.1, h.2]
  | .add x y, b, h => by cases b <;> simp [IE.beq] at h; rw [IE.beq_eq _ _ h.1, IE.beq_eq _ _ h.2]
  | .sub x y, b, h => by cases b <;> simp [IE.beq] at h; rw [IE.beq_eq _ _ h.1, IE.beq_eq _ _ h.2]
  | .mul x y, b, h => by cases b <;> simp [IE.beq] at h; rw [IE.beq_eq _ _ h.1, IE.beq_eq _ _ h.2]
  | .wrap k x, b, h => by cases b <;> simp [IE.beq, keq_iff] at h; rw [h.1, IE.beq_eq _ _ h.2]
  | .bin op k x y, b, h => by
    cases b <;> simp [IE.beq, keq_iff] at h
    rw [bop_eq _ _ h.1, h.2.1, IE.beq_eq _ _ h.2.2.1, IE.beq_eq _ _ h.2.2.2]
theorem BE.beq_eq : ∀ (a b : BE), a.beq b = true → a = b
  | .lit a, b, h => by cases b <;> simp [BE.beq] at h; rw [h]
  | .var n, b, h => by cases b <;> simp [BE.beq] at h; rw [h]
  | .le x y, b, h => by cases b <;> simp [BE.beq] at h; rw [IE.beq_eq _ _ h.1, IE.beq_eq _ _ h.2]
  | .eq x y, b, h => by cases b <;> simp [BE.beq] at h; rw [IE.beq_eq _ _ h.1, IE.beq_eq _ _ h.2]
  | .not x, b, h => by cases b <;> simp [BE.beq] at h; rw [BE.beq_eq _ _ h]
  | .and x y, b, h => by cases b <;> simp [BE.beq] at h; rw [BE.beq_eq _ _ h.1, BE.beq_eq _ _ h.2]
  | .iff x y, b, h => by cases b <;> simp [BE.beq] at h; rw [BE.beq_eq _ _ h.1, BE.beq_eq _ _ h.2]

/- what is known -/
structure Rho.Ok (ρ : Rho) : Prop where
  lo : ∀ k n, kmin k ≤ ρ.i k n
  hi : ∀ k n, ρ.i k n ≤ kmax k
def Holds (ρ : Rho) (pc : List BE) : Prop := ∀ p ∈ pc, p.den ρ = true
/-- e is within these bounds. -/
def Within (n : Int) (r : Option Int × Option Int) : Prop := (∀ a, r.1 = some a → a ≤ n) ∧ (∀ b, r.2 = some b → n ≤ b)
section
variable {ρ : Rho}
theorem den_le_t {x y : IE} : (BE.le x y).den ρ = true ↔ x.den ρ ≤ y.den ρ := by unfold BE.den; exact decide_eq_true_iff
theorem den_le_f {x y : IE} : (BE.le x y).den ρ = false ↔ ¬ x.den ρ ≤ y.den ρ := by unfold BE.den; exact decide_eq_false_iff_not
theorem den_eq_t {x y : IE} : (BE.eq x y).den ρ = true ↔ x.den ρ = y.den ρ := by unfold BE.den; exact decide_eq_true_iff
theorem den_eq_f {x y : IE} : (BE.eq x y).den ρ = false ↔ ¬ x.den ρ = y.den ρ := by unfold BE.den; exact decide_eq_false_iff_not
theorem den_not {x : BE} : (BE.not x).den ρ = !x.den ρ := rfl
theorem den_lit {n : Int} : (IE.lit n).den ρ = n := rfl
theorem Holds.tail {p : BE} {pc : List BE} (h : Holds ρ (p :: pc)) : Holds ρ pc := fun q hq => h q (List.mem_cons_of_mem _ hq)
theorem Holds.head {p : BE} {pc : List BE} (h : Holds ρ (p :: pc)) : p.den ρ = true := h p (List.mem_cons_self ..)
theorem Holds.cons {p : BE} {pc : List BE} (h : Holds ρ pc) (hp : p.den ρ = true) : Holds ρ (p :: pc) := by
  intro q hq
  rcases List.mem_cons.1 hq with rfl | hq
  · exact hp
  · exact h q hq
theorem omax_le {o : Option Int} {b n : Int} (ho : ∀ a, o = some a → a ≤ n) (hb : b ≤ n) : ∀ a, omax o b = some a → a ≤ n := by
  intro a ha
  cases o with
  | none => simp [omax] at ha; omega
  | some c =>
    simp only [omax] at ha
    have := ho c rfl
    split at ha <;> (cases ha; omega)
theorem omin_le {o : Option Int} {b n : Int} (ho : ∀ a, o = some a → n ≤ a) (hb : n ≤ b) : ∀ a, omin o b = some a → n ≤ a := by
  intro a ha
  cases o with
  | none => simp [omin] at ha; omega
  | some c =>
    simp only [omin] at ha
    have := ho c rfl
    split at ha <;> (cases ha; omega)
theorem low1_le {e : IE} {p : BE} {o : Option Int} (hp : p.den ρ = true) (ho : ∀ a, o = some a → a ≤ e.den ρ) : ∀ a, low1 e p o = some a → a ≤ e.den ρ := by
  unfold low1
  revert hp
  split <;> intro hp
  · split
    · rename_i h
      have := IE.beq_eq _ _ h
      subst this
      simp only [fint_eq]
      simp only [den_not, Bool.not_eq_true', den_le_t, den_le_f, den_eq_t, den_lit] at hp
      exact omax_le ho (by omega)
    · exact ho
  · split
    · rename_i h
      have := IE.beq_eq _ _ h
      subst this
      simp only [den_not, Bool.not_eq_true', den_le_t, den_le_f, den_eq_t, den_lit] at hp
      exact omax_le ho (by omega)
    · exact ho
  · split
    · rename_i h
      have := IE.beq_eq _ _ h
      subst this
      simp only [den_not, Bool.not_eq_true', den_le_t, den_le_f, den_eq_t, den_lit] at hp
      exact omax_le ho (by omega)
    · exact ho
  · exact ho
theorem high1_le {e : IE} {p : BE} {o : Option Int} (hp : p.den ρ = true) (ho : ∀ a, o = some a → e.den ρ ≤ a) : ∀ a, high1 e p o = some a → e.den ρ ≤ a := by
  unfold high1
  revert hp
  split <;> intro hp
  · split
    · rename_i h
      have := IE.beq_eq _ _ h
      subst this
      simp only [den_not, Bool.not_eq_true', den_le_t, den_le_f, den_eq_t, den_lit] at hp
      exact omin_le ho (by omega)
    · exact ho
  · split
    · rename_i h
      have := IE.beq_eq _ _ h
      subst this
      simp only [fint_eq]
      simp only [den_not, Bool.not_eq_true', den_le_t, den_le_f, den_eq_t, den_lit] at hp
      exact omin_le ho (by omega)
    · exact ho
  · split
    · rename_i h
      have := IE.beq_eq _ _ h
      subst this
      simp only [den_not, Bool.not_eq_true', den_le_t, den_le_f, den_eq_t, den_lit] at hp
      exact omin_le ho (by omega)
    · exact ho
  · exact ho
theorem lows_le {e : IE} {pc : List BE} {o : Option Int} (hp : Holds ρ pc) (ho : ∀ a, o = some a → a ≤ e.den ρ) : ∀ a, lows pc e o = some a → a ≤ e.den ρ := by
  unfold lows
  induction pc with
  | nil => exact ho
  | cons p pc ih => exact low1_le hp.head (ih hp.tail)
theorem highs_le {e : IE} {pc : List BE} {o : Option Int} (hp : Holds ρ pc) (ho : ∀ a, o = some a → e.den ρ ≤ a) : ∀ a, highs pc e o = some a → e.den ρ ≤ a := by
  unfold highs
  induction pc with
  | nil => exact ho
  | cons p pc ih => exact high1_le hp.head (ih hp.tail)
theorem rng_in (hρ : ρ.Ok) {pc : List BE} (hp : Holds ρ pc) : ∀ e : IE, Within (e.den ρ) (rng pc e)
  | .lit n => by simp [rng, Within, IE.den]
  | .var k n => ⟨lows_le hp (by rintro a ⟨⟩; exact hρ.lo k n), highs_le hp (by rintro a ⟨⟩; exact hρ.hi k n)⟩
  | .add x y => by
    have hx := rng_in hρ hp x
    have hy := rng_in hρ hp y
    refine ⟨lows_le hp ?_, highs_le hp ?_⟩
    · intro a ha
      cases h1 : (rng pc x).1 <;> cases h2 : (rng pc y).1 <;> simp [oadd, h1, h2, fint_eq] at ha
      have := hx.1 _ h1
      have := hy.1 _ h2
      simp only [IE.den]; omega
    · intro a ha
      cases h1 : (rng pc x).2 <;> cases h2 : (rng pc y).2 <;> simp [oadd, h1, h2, fint_eq] at ha
      have := hx.2 _ h1
      have := hy.2 _ h2
      simp only [IE.den]; omega
  | .sub x y => by
    have hx := rng_in hρ hp x
    have hy := rng_in hρ hp y
    refine ⟨lows_le hp ?_, highs_le hp ?_⟩
    · intro a ha
      cases h1 : (rng pc x).1 <;> cases h2 : (rng pc y).2 <;> simp [osub, h1, h2, fint_eq] at ha
      have := hx.1 _ h1
      have := hy.2 _ h2
      simp only [IE.den]; omega
    · intro a ha
      cases h1 : (rng pc x).2 <;> cases h2 : (rng pc y).1 <;> simp [osub, h1, h2, fint_eq] at ha
      have := hx.2 _ h1
      have := hy.1 _ h2
      simp only [IE.den]; omega
  | .mul x y => ⟨lows_le hp (by rintro a ⟨⟩), highs_le hp (by rintro a ⟨⟩)⟩
  | .wrap k x => ⟨lows_le hp (by rintro a ⟨⟩; exact wrap_lo _ _), highs_le hp (by rintro a ⟨⟩; exact wrap_hi _ _)⟩
  | .bin op k x y => ⟨lows_le hp (by rintro a ⟨⟩), highs_le hp (by rintro a ⟨⟩)⟩
theorem wrapK_den (hρ : ρ.Ok) {pc : List BE} (hp : Holds ρ pc) (k : IntKind) (e : IE) : (wrapK k pc e).den ρ = k.wrap (e.den ρ) := by
  unfold wrapK
  split
  · rename_i h
    have hr := rng_in hρ hp e
    obtain ⟨lo, hi⟩ := hr
    generalize rng pc e = r at *
    obtain ⟨a, b⟩ := r
    cases a <;> cases b <;> simp [oin] at h
    rename_i a b
    rw [ileb_iff, ileb_iff] at h
    have := lo a rfl
    have := hi b rfl
    exact (wrap_in k _ (by omega) (by omega)).symm
  · rfl
theorem litK_den (k : IntKind) (n : Int) : (litK k n).den ρ = k.wrap n := by
  unfold litK
  split
  · split
    · rename_i h1 h2
      rw [ileb_iff] at h1 h2
      exact (wrap_in k n h1 h2).symm
    · rfl
  · rfl
theorem mkAdd_den (hρ : ρ.Ok) {pc : List BE} (hp : Holds ρ pc) (k : IntKind) (x y : IE) : (mkAdd k pc x y).den ρ = k.wrap (x.den ρ + y.den ρ) := by
  unfold mkAdd
  split
  · rw [fint_eq, litK_den]; rfl
  · rw [wrapK_den hρ hp]; rfl
theorem mkSub_den (hρ : ρ.Ok) {pc : List BE} (hp : Holds ρ pc) (k : IntKind) (x y : IE) : (mkSub k pc x y).den ρ = k.wrap (x.den ρ - y.den ρ) := by
  unfold mkSub
  split
  · rw [fint_eq, litK_den]; rfl
  · rw [wrapK_den hρ hp]; rfl
theorem mkMul_den (hρ : ρ.Ok) {pc : List BE} (hp : Holds ρ pc) (k : IntKind) (x y : IE) : (mkMul k pc x y).den ρ = k.wrap (x.den ρ * y.den ρ) := by
  unfold mkMul
  split
  · rw [fint_eq, litK_den]; rfl
  · rw [wrapK_den hρ hp]; rfl
theorem mkConv_den (hρ : ρ.Ok) {pc : List BE} (hp : Holds ρ pc) (k : IntKind) (x : IE) : (mkConv k pc x).den ρ = k.wrap (x.den ρ) := by
  unfold mkConv
  split
  · rw [litK_den]; rfl
  · rw [wrapK_den hρ hp]
theorem hasB_den {pc : List BE} (hp : Holds ρ pc) (c : BE) (r : Bool) (h : hasB c pc = some r) : c.den ρ = r := by
  induction pc with
  | nil => simp [hasB] at h
  | cons p pc ih =>
    simp only [hasB] at h
    split at h
    · rename_i hb
      have := BE.beq_eq _ _ hb
      subst this
      cases h
      exact hp.head
    · split at h
      · split at h
        · rename_i hb
          have := BE.beq_eq _ _ hb
          subst this
          cases h
          have := hp.head
          simpa [BE.den] using this
        · exact ih hp.tail h
      · exact ih hp.tail h
theorem oorelse_some {a b : Option Bool} {r : Bool} (h : oorelse a b = some r) : a = some r ∨ b = some r := by
  cases a <;> simp [oorelse] at h
  · exact .inr h
  · exact .inl (by rw [h])
theorem leR_den {m n : Int} {x y : Option Int × Option Int} (hx : Within m x) (hy : Within n y) (r : Bool) (h : leR x y = some r) : decide (m ≤ n) = r := by
  obtain ⟨a, b⟩ := x
  obtain ⟨c, d⟩ := y
  obtain ⟨x1, x2⟩ := hx
  obtain ⟨y1, y2⟩ := hy
  simp only [leR] at h
  split at h
  · cases h
    rename_i hb
    cases b <;> cases c <;> simp at hb
    rw [ileb_iff] at hb
    have := x2 _ rfl
    have := y1 _ rfl
    simp; omega
  · split at h
    · cases h
      rename_i hb
      cases d <;> cases a <;> simp at hb
      rw [ileb_false] at hb
      have := x1 _ rfl
      have := y2 _ rfl
      simp; omega
    · cases h
theorem eqR_den {m n : Int} {x y : Option Int × Option Int} (hx : Within m x) (hy : Within n y) (r : Bool) (h : eqR x y = some r) : decide (m = n) = r := by
  obtain ⟨a, b⟩ := x
  obtain ⟨c, d⟩ := y
  obtain ⟨x1, x2⟩ := hx
  obtain ⟨y1, y2⟩ := hy
  cases a <;> cases b <;> cases c <;> cases d <;> simp [eqR] at h
  have := x1 _ rfl
  have := x2 _ rfl
  have := y1 _ rfl
  have := y2 _ rfl
  split at h
  · rename_i h1; rw [ileb_iff] at h1
    split at h
    · rename_i h2; rw [ileb_iff] at h2
      split at h
      · rename_i h3; rw [ileb_iff] at h3
        split at h
        · rename_i h4; rw [ileb_iff] at h4
          cases h; simp; omega
        · cases h
      · cases h
    · rename_i h2; cases h; simp [ileb_iff] at h2 ⊢; omega
  · rename_i h2; cases h; simp [ileb_iff] at h2 ⊢; omega
theorem leB_den {pc : List BE} (hp : Holds ρ pc) (x y : IE) (r : Bool) (h : leB pc x y = some r) : decide (x.den ρ ≤ y.den ρ) = r := by
  rcases oorelse_some h with h | h
  · exact hasB_den hp _ _ h
  · split at h
    · rename_i h2
      cases h
      have := hasB_den hp _ _ h2
      simp [BE.den] at this ⊢; omega
    · cases h
theorem eqB_den {pc : List BE} (hp : Holds ρ pc) (x y : IE) (r : Bool) (h : eqB pc x y = some r) : decide (x.den ρ = y.den ρ) = r := by
  rcases oorelse_some h with h | h
  · exact hasB_den hp _ _ h
  · have := hasB_den hp _ _ h
    simp only [BE.den] at this
    rw [← this]
    simp [eq_comm]
theorem leE_den {pc : List BE} (hp : Holds ρ pc) (x y : IE) (r : Bool) (h : leE pc x y = some r) : decide (x.den ρ ≤ y.den ρ) = r := by
  unfold leE at h
  split at h
  · rename_i h1
    cases h
    have := eqB_den hp _ _ _ h1
    simp at this ⊢; omega
  · rename_i h1
    split at h
    · rename_i h2
      cases h
      have := eqB_den hp _ _ _ h1
      have := leB_den hp _ _ _ h2
      simp at *; omega
    · cases h
  · cases h
theorem eqL_den {pc : List BE} (hp : Holds ρ pc) (x y : IE) (r : Bool) (h : eqL pc x y = some r) : decide (x.den ρ = y.den ρ) = r := by
  unfold eqL at h
  split at h
  · rename_i h1
    split at h
    · rename_i h2
      cases h
      have a1 := leB_den hp _ _ _ h1
      have a2 := leB_den hp _ _ _ h2
      rw [← a2]
      simp at a1 ⊢; omega
    · cases h
  · rename_i h1
    cases h
    have := leB_den hp _ _ _ h1
    simp at *; omega
  · split at h
    · rename_i h2
      cases h
      have := leB_den hp _ _ _ h2
      simp at *; omega
    · cases h
theorem dec_den (hρ : ρ.Ok) {pc : List BE} (hp : Holds ρ pc) : ∀ (c : BE) (r : Bool), dec pc c = some r → c.den ρ = r
  | .lit b, r, h => by simp [dec] at h; simp [BE.den, h]
  | .var n, r, h => hasB_den hp _ _ h
  | .le x y, r, h => by
    simp only [dec] at h
    split at h
    · rename_i hb
      cases h
      rw [IE.beq_eq _ _ hb]; simp [BE.den]
    · rcases oorelse_some h with h | h
      · exact leR_den (rng_in hρ hp x) (rng_in hρ hp y) r h
      · rcases oorelse_some h with h | h
        · exact leB_den hp _ _ _ h
        · exact leE_den hp _ _ _ h
  | .eq x y, r, h => by
    simp only [dec] at h
    split at h
    · rename_i hb
      cases h
      rw [IE.beq_eq _ _ hb]; simp [BE.den]
    · rcases oorelse_some h with h | h
      · exact eqR_den (rng_in hρ hp x) (rng_in hρ hp y) r h
      · rcases oorelse_some h with h | h
        · exact eqB_den hp _ _ _ h
        · exact eqL_den hp _ _ _ h
  | .not x, r, h => by
    simp only [dec] at h
    split at h
    · rename_i b hb
      cases h
      rw [BE.den, dec_den hρ hp x _ hb]
    · cases h
  | .and x y, r, h => by
    simp only [dec] at h
    split at h
    · rename_i hb
      cases h
      rw [BE.den, dec_den hρ hp x _ hb]; rfl
    · rename_i hb
      rw [BE.den, dec_den hρ hp x _ hb, dec_den hρ hp y _ h]; rfl
    · split at h
      · rename_i hb
        cases h
        rw [BE.den, dec_den hρ hp y _ hb]; simp
      · cases h
  | .iff x y, r, h => by
    simp only [dec] at h
    split at h
    · rename_i hb hc
      cases h
      rw [BE.den, dec_den hρ hp x _ hb, dec_den hρ hp y _ hc]
    · cases h
theorem mkNot_den (c : BE) : (mkNot c).den ρ = !c.den ρ := by cases c <;> simp [mkNot, BE.den]
theorem mkEq_den (x y : IE) : (mkEq x y).den ρ = decide (x.den ρ = y.den ρ) := by
  unfold mkEq
  split
  · rw [Bool.eq_iff_iff, decide_eq_true_iff]; exact ieqb_iff _ _
  · rw [Bool.eq_iff_iff, decide_eq_true_iff]
    show decide (_ = _) = true ↔ _
    rw [decide_eq_true_iff]; exact eq_comm
  · rfl
theorem mkLe_den (x y : IE) : (mkLe x y).den ρ = decide (x.den ρ ≤ y.den ρ) := by
  unfold mkLe
  split
  · rw [Bool.eq_iff_iff, decide_eq_true_iff]; exact ileb_iff _ _
  · rfl
theorem mkIff_den (x y : BE) : (mkIff x y).den ρ = (x.den ρ == y.den ρ) := by
  unfold mkIff
  split <;> simp [BE.den, mkNot_den]
theorem mkAnd_den (x y : BE) : (mkAnd x y).den ρ = (x.den ρ && y.den ρ) := by
  unfold mkAnd
  split <;> simp [BE.den]
end
end Go.Proofs.Ytjgkaimgocnkmab.Sx
