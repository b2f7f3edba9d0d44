/- Layer wait: of queues. No condition. -/
import Derived.Test.YteblnjgghbclpaaDoorWa
set_option linter.unusedVariables false
set_option linter.unusedSimpArgs false
set_option linter.deprecated false
namespace Go.Proofs.YteblnjgghbclpaaDoor.wt
open Go Go.Proofs.YteblnjgghbclpaaDoor.Sx
theorem find_go {l : LV} {i s : Int} (h0 : 0 ≤ i) (hi : findN l s i.toNat = i.toNat) (hn : ¬ clampK .i64 (intV (celV l i 0)) = s) : findN l s (i + 1).toNat = (i + 1).toNat := by
  rw [at_s h0]; exact first_no hi (by rw [at_z h0] at hn; simpa using hn)
theorem find_hit {l : LV} {i s : Int} (h0 : 0 ≤ i) (hl : i < (l.length : Int)) (hi : findN l s i.toNat = i.toNat) (hn : clampK .i64 (intV (celV l i 0)) = s) : (findN l s l.length : Int) = i := by
  have := first_yes (p := fun k => decide (atI l k 0 = s)) (n := l.length) (by omega) hi (by rw [at_z h0] at hn; simpa using hn)
  unfold findN; omega
theorem find_miss {l : LV} {i s : Int} (h0 : 0 ≤ i) (hl : (l.length : Int) ≤ i) (hl2 : i ≤ (l.length : Int)) (hi : findN l s i.toNat = i.toNat) : (findN l s l.length : Int) = (l.length : Int) := by
  rw [show i.toNat = l.length by omega] at hi; omega
theorem fm {ρ : Rho} {c : List BE} (hp : Holds ρ c) (hm : few ∈ c) : ((ρ.z.rl 0).length : Int) ≤ 1000 := by
  have := hp few hm
  simp only [few, ln, d_le, IE.den, LE.den, lenV] at this
  exact this
theorem post_f {ρ : Rho} (hF : ρ.z.F = Φ) (hm : ((ρ.z.rl 0).length : Int) ≤ 1000) : Holds ρ [.le (.lit 0) F2, .le F2 (ln 0)] := by
  have h : findN (ρ.z.rl 0) (ρ.i .i64 1) (ρ.z.rl 0).length ≤ (ρ.z.rl 0).length := first_le _ _
  simp only [h_nil, h_cons, d_le, IE.den, LE.den, AL.den, F2, ln, lenV, xv, hF, pi2, and_true]
  rw [clampS (by omega) (by omega)]
  omega
theorem post_rfin : PostOk Φ cRFin := fun ρ hF hp => post_f hF (fm hp (by simp [cRFin]))
theorem post_findIn : PostOk Φ cFindIn := fun ρ hF hp => post_f hF (fm hp (by simp [cFindIn]))
/- queues -/
theorem pre_s {l : LV} {n : Nat} : (preN l (n + 1) = true) ↔ (preN l n = true ∧ mayAt l n = true ∧ findN l (atI l n 0) n = n) := by
  simp [preN]
theorem pre_le {l : LV} : ∀ {n k : Nat}, k ≤ n → preN l n = true → preN l k = true
  | 0, k, h, e => by rw [show k = 0 by omega]; rfl
  | n + 1, k, h, e => by
    by_cases hk : k = n + 1
    · rw [hk]; exact e
    · exact pre_le (by omega) (pre_s.1 e).1
theorem pre_at {l : LV} {n k : Nat} (h : k < n) (e : preN l n = true) : mayAt l k = true ∧ findN l (atI l k 0) k = k := (pre_s.1 (pre_le (show k + 1 ≤ n by omega) e)).2
theorem pre_ne {l : LV} {n i j : Nat} (hi : i < j) (hj : j < n) (e : preN l n = true) : ¬ atI l i 0 = atI l j 0 := by
  have h := (pre_at hj e).2
  have := first_lt (p := fun k => decide (atI l k 0 = atI l j 0)) (n := j) (i := i) (by unfold findN at h; omega)
  simpa using this
theorem php : ∀ (m n : Nat) (f : Nat → Nat), (∀ i, i < n → f i < m) → (∀ i j, i < j → j < n → ¬ f i = f j) → n ≤ m
  | 0, n, f, h, _ => by
    cases n with
    | zero => exact Nat.le_refl _
    | succ n => exact absurd (h 0 (by omega)) (by omega)
  | m + 1, n, f, h, hn => by
    cases n with
    | zero => omega
    | succ n =>
      have := php m n (fun i => if f i = m then f n else f i) (fun i hi => by
        have h1 := h i (by omega)
        have h2 := h n (by omega)
        have h3 := hn i n hi (by omega)
        show (if f i = m then f n else f i) < m
        split <;> omega) (fun i j hi hj => by
        have h1 := hn i j hi (by omega)
        have h2 := hn i n (by omega) (by omega)
        have h3 := hn j n hj (by omega)
        show ¬ (if f i = m then f n else f i) = (if f j = m then f n else f j)
        split <;> split <;> omega)
      omega
theorem may_site {l : LV} {i : Nat} (h : mayAt l i = true) : 0 ≤ atI l i 0 ∧ atI l i 0 ≤ 255 := by
  rw [mayAt, may_iff] at h; omega
theorem pre_256 {l : LV} {n : Nat} (h : preN l n = true) : n ≤ 256 := by
  refine php 256 n (fun i => (atI l i 0).toNat) (fun i hi => ?_) (fun i j hi hj => ?_)
  · have := may_site (pre_at hi h).1
    show (atI l i 0).toNat < 256
    omega
  · have a := may_site (pre_at (show i < n by omega) h).1
    have b := may_site (pre_at hj h).1
    have c := pre_ne hi hj h
    show ¬ (atI l i 0).toNat = (atI l j 0).toNat
    omega
/-- The marks of those that were seen. -/
def Marks (l A : LV) (n : Nat) : Prop := A.length = 256 ∧ ∀ s : Int, 0 ≤ s → s ≤ 255 → ((boolV (celV A s 0) = true) ↔ ∃ j, j < n ∧ atI l j 0 = s)
theorem getA {A : LV} {s : Int} {c : List Value} (h : A[s.toNat]? = some c) : celV A s 0 = c.getD 0 (.bool false) := by
  have e : A.getD s.toNat [] = c := by rw [List.getD_eq_getElem?_getD, h]; rfl
  unfold celV
  rw [e]
theorem marks0 {l A : LV} (hA : A = List.replicate (256 : Int).toNat [.bool false]) : Marks l A 0 := by
  subst hA
  refine ⟨List.length_replicate .., fun s h0 h1 => ?_⟩
  rw [getA (c := [.bool false]) (by rw [List.getElem?_replicate, if_pos (by omega)])]
  constructor
  · intro h; cases h
  · rintro ⟨j, hj, _⟩; omega
theorem marks_s {l A : LV} {n : Nat} {x : Int} (h : Marks l A n) (h0 : 0 ≤ x) (h1 : x ≤ 255) (hx : atI l n 0 = x) : Marks l (A.set x.toNat [.bool true]) (n + 1) := by
  refine ⟨by rw [List.length_set]; exact h.1, fun s s0 s1 => ?_⟩
  by_cases c : s = x
  · subst c
    have hl := h.1
    rw [getA (c := [.bool true]) (List.getElem?_set_self (by omega))]
    exact ⟨fun _ => ⟨n, by omega, hx⟩, fun _ => rfl⟩
  · have e : celV (A.set x.toNat [.bool true]) s 0 = celV A s 0 := by
      have q : (A.set x.toNat [Value.bool true]).getD s.toNat [] = A.getD s.toNat [] := by
        rw [List.getD_eq_getElem?_getD, List.getD_eq_getElem?_getD, List.getElem?_set_ne (by omega)]
      unfold celV
      rw [q]
    rw [e, h.2 s s0 s1]
    constructor
    · rintro ⟨j, hj, e⟩; exact ⟨j, by omega, e⟩
    · rintro ⟨j, hj, e⟩
      refine ⟨j, ?_, e⟩
      by_cases k : j = n
      · subst k; omega
      · omega
theorem queue_end {l : LV} {i : Int} (h : preN l i.toNat = true) (hi : i = (l.length : Int)) : queueL l = true := by
  rw [queueL, show l.length = i.toNat by omega]; exact h
theorem queue_may {l : LV} {i : Int} (h0 : 0 ≤ i) (hl : i < (l.length : Int)) (h : ¬ mayAt l i.toNat = true) : queueL l = false := by
  refine Bool.eq_false_iff.2 fun hh => h ?_
  exact (pre_at (n := l.length) (by omega) hh).1
theorem queue_seen {l A : LV} {i s : Int} (h0 : 0 ≤ i) (hl : i < (l.length : Int)) (hm : Marks l A i.toNat) (hs : s = atI l i.toNat 0) (s0 : 0 ≤ s) (s1 : s ≤ 255) (hb : boolV (celV A s 0) = true) : queueL l = false := by
  refine Bool.eq_false_iff.2 fun hh => ?_
  obtain ⟨j, hj, e⟩ := (hm.2 s s0 s1).1 hb
  exact pre_ne hj (show i.toNat < l.length by omega) hh (e.trans hs)
theorem pre_go {l A : LV} {i s : Int} (h0 : 0 ≤ i) (hp : preN l i.toNat = true) (hmay : mayAt l i.toNat = true) (hm : Marks l A i.toNat) (hs : s = atI l i.toNat 0) (s0 : 0 ≤ s) (s1 : s ≤ 255) (hb : ¬ boolV (celV A s 0) = true) : preN l (i + 1).toNat = true := by
  rw [at_s h0]
  refine pre_s.2 ⟨hp, hmay, first_none fun k hk => ?_⟩
  simp only [decide_eq_false_iff_not]
  intro e
  exact hb ((hm.2 s s0 s1).2 ⟨k, hk, e.trans hs.symm⟩)
/-- The document's way: the first place of its site. -/
theorem pre_goR {l : LV} {i : Int} (h0 : 0 ≤ i) (hl : i < (l.length : Int)) (hp : preN l i.toNat = true) (hmay : mayAt l i.toNat = true) (hf : ((findN l (atI l i.toNat 0) l.length : Nat) : Int) = i) : preN l (i + 1).toNat = true := by
  rw [at_s h0]
  refine pre_s.2 ⟨hp, hmay, first_none fun k hk => ?_⟩
  exact first_lt (p := fun k => decide (atI l k 0 = atI l i.toNat 0)) (n := l.length) (by unfold findN at hf; omega)
theorem queue_ne {l : LV} {i : Int} (h0 : 0 ≤ i) (hl : i < (l.length : Int)) (hf : ¬ ((findN l (atI l i.toNat 0) l.length : Nat) : Int) = i) : queueL l = false := by
  refine Bool.eq_false_iff.2 fun hh => hf ?_
  have h := (pre_at (show i.toNat < l.length by omega) hh).2
  have e := first_yes (p := fun k => decide (atI l k 0 = atI l i.toNat 0)) (i := i.toNat) (n := l.length) (by omega) h (by simp)
  unfold findN; omega
theorem find_self {l : LV} {i : Int} (h0 : 0 ≤ i) (hl : i < (l.length : Int)) : ((findN l (atI l i.toNat 0) l.length : Nat) : Int) ≤ i := by
  have b : findN l (atI l i.toNat 0) l.length ≤ l.length := first_le _ _
  refine Int.not_lt.1 fun h => ?_
  have := first_lt (p := fun k => decide (atI l k 0 = atI l i.toNat 0)) (n := l.length) (i := i.toNat) (by unfold findN at h; omega)
  simp at this
theorem queue_long {l : LV} (h : 256 < l.length) : queueL l = false := by
  refine Bool.eq_false_iff.2 fun hh => ?_
  have := pre_256 hh
  omega
/- one more, one less -/
theorem add0 {l : LV} {s u m p a : Int} (hq : queueL l = true) (hm : mayW s u m p a = true) (hf : findN l s l.length = l.length) : addE l s u m p a = 0 ∧ addL l s u m p a = l ++ wL s u m p a := by
  have e : addE l s u m p a = 0 := by rw [addE, hq, hm, if_pos (show (true && true) = true from rfl), if_pos hf]
  exact ⟨e, by rw [addL, if_pos e]⟩
theorem add220 {l : LV} {s u m p a : Int} (hq : queueL l = true) (hm : mayW s u m p a = true) (hf : ¬ findN l s l.length = l.length) : addE l s u m p a = 220 := by
  rw [addE, hq, hm, if_pos (show (true && true) = true from rfl), if_neg hf]
theorem add2q {l : LV} {s u m p a : Int} (hq : ¬ queueL l = true) : addE l s u m p a = 2 := by
  rw [addE, Bool.eq_false_iff.2 hq]; rfl
theorem add2m {l : LV} {s u m p a : Int} (hm : ¬ mayW s u m p a = true) : addE l s u m p a = 2 := by
  rw [addE, Bool.eq_false_iff.2 hm, Bool.and_false]; rfl
theorem addE_in (l : LV) (s u m p a : Int) : clampK .i64 (addE l s u m p a) = addE l s u m p a := by
  unfold addE; split
  · split <;> rfl
  · rfl
theorem drop0 {l : LV} {s : Int} (hq : queueL l = true) (hf : ¬ findN l s l.length = l.length) : dropE l s = 0 ∧ dropL l s = cutL l (findN l s l.length) := by
  have e : dropE l s = 0 := by rw [dropE, hq, if_pos rfl, if_neg hf]
  exact ⟨e, by rw [dropL, if_pos e]⟩
theorem drop5 {l : LV} {s : Int} (hq : queueL l = true) (hf : findN l s l.length = l.length) : dropE l s = 5 := by
  rw [dropE, hq, if_pos rfl, if_pos hf]
theorem drop2 {l : LV} {s : Int} (hq : ¬ queueL l = true) : dropE l s = 2 := by
  rw [dropE, Bool.eq_false_iff.2 hq]; rfl
theorem dropE_in (l : LV) (s : Int) : clampK .i64 (dropE l s) = dropE l s := by
  unfold dropE; split
  · split <;> rfl
  · rfl
theorem find_in {l : LV} {s : Int} (h : (l.length : Int) ≤ 1000) : clampK .i64 ((findN l s l.length : Nat) : Int) = ((findN l s l.length : Nat) : Int) := by
  have b : findN l s l.length ≤ l.length := first_le _ _
  exact clampS (by omega) (by omega)
theorem cut_len {R : LV} {f : Nat} (h : f < R.length) : (cutL R f).length = R.length - 1 := by
  rw [cutL, List.length_append, List.length_take, List.length_drop]; omega
/-- A row that is laid over noughts, another one behind it. -/
theorem put2 {Z A B : LV} {a n : Int} (hz : (Z.length : Int) = n) (ha : (A.length : Int) = a) (hb : (B.length : Int) = n - a) :
    ((((Z.take (0 : Int).toNat ++ A) ++ Z.drop a.toNat).take a.toNat) ++ B) ++ (((Z.take (0 : Int).toNat ++ A) ++ Z.drop a.toNat).drop n.toNat) = A ++ B := by
  have e0 : Z.take (0 : Int).toNat = [] := rfl
  rw [e0, List.nil_append, List.take_append_of_le_length (by omega), List.take_of_length_le (by omega)]
  have d : (A ++ Z.drop a.toNat).drop n.toNat = [] := List.drop_eq_nil_of_le (by rw [List.length_append, List.length_drop]; omega)
  rw [d, List.append_nil]
theorem post_add {ρ : Rho} (hF : ρ.z.F = Φ) (hm : ((ρ.z.rl 0).length : Int) ≤ 1000) (h : (IE.den ρ addEE) = 0) : Holds ρ (postW addLE) := by
  have h' : addE (ρ.z.rl 0) (ρ.i .i64 1) (ρ.i .i64 2) (ρ.i .i64 3) (ρ.i .i64 4) (ρ.i .i64 5) = 0 := by
    have := h
    simp only [addEE, addA, xv, IE.den, AL.den, LE.den, hF, pi5] at this
    rw [addE_in] at this; exact this
  have e : addL (ρ.z.rl 0) (ρ.i .i64 1) (ρ.i .i64 2) (ρ.i .i64 3) (ρ.i .i64 4) (ρ.i .i64 5) = ρ.z.rl 0 ++ wL (ρ.i .i64 1) (ρ.i .i64 2) (ρ.i .i64 3) (ρ.i .i64 4) (ρ.i .i64 5) := by rw [addL, if_pos h']
  show Holds ρ [_, _]
  simp only [h_nil, h_cons, d_le, IE.den, LE.den, AL.den, addLE, addA, xv, lenV, hF, pl6, and_true, e, List.length_append, wL, List.length_cons, List.length_nil]
  omega
theorem post_addOk : PostOk Φ cAddOk := fun ρ hF hp => post_add hF (fm hp (by simp [cAddOk, preA])) (by have := hp (.eq addEE (.lit 0)) (by simp [cAddOk]); rw [d_eq] at this; exact this)
theorem post_raddOk : PostOk Φ cRAddOk := fun ρ hF hp => post_add hF (fm hp (by simp [cRAddOk, preA])) (by have := hp (.eq addEE (.lit 0)) (by simp [cRAddOk]); rw [d_eq] at this; exact this)
theorem post_drop {ρ : Rho} (hF : ρ.z.F = Φ) (hm : ((ρ.z.rl 0).length : Int) ≤ 1000) (h2 : (2 : Int) ≤ ((ρ.z.rl 0).length : Int)) (h : (IE.den ρ dropEE) = 0) : Holds ρ (postW dropLE) := by
  have h' : dropE (ρ.z.rl 0) (ρ.i .i64 1) = 0 := by
    have := h
    simp only [dropEE, dropA, xv, IE.den, AL.den, LE.den, hF, pi6] at this
    rw [dropE_in] at this; exact this
  have e : dropL (ρ.z.rl 0) (ρ.i .i64 1) = cutL (ρ.z.rl 0) (findN (ρ.z.rl 0) (ρ.i .i64 1) (ρ.z.rl 0).length) := by rw [dropL, if_pos h']
  have hl : findN (ρ.z.rl 0) (ρ.i .i64 1) (ρ.z.rl 0).length < (ρ.z.rl 0).length := by
    refine Nat.lt_of_le_of_ne (first_le _ _) fun c => ?_
    by_cases hq : queueL (ρ.z.rl 0) = true
    · rw [drop5 hq c] at h'; exact absurd h' (by decide)
    · rw [drop2 hq] at h'; exact absurd h' (by decide)
  have hc := cut_len hl
  show Holds ρ [_, _]
  simp only [h_nil, h_cons, d_le, IE.den, LE.den, AL.den, dropLE, dropA, xv, lenV, hF, pl8, and_true, e, hc]
  omega
theorem m2 {ρ : Rho} {c : List BE} (hp : Holds ρ c) (hm : BE.le (.lit 2) (ln 0) ∈ c) : (2 : Int) ≤ ((ρ.z.rl 0).length : Int) := by
  have := hp _ hm
  simp only [ln, d_le, IE.den, LE.den, lenV] at this
  exact this
theorem post_dropOk : PostOk Φ cDropOk := fun ρ hF hp => post_drop hF (fm hp (by simp [cDropOk, preD])) (m2 hp (by simp [cDropOk, preD])) (by have := hp (.eq dropEE (.lit 0)) (by simp [cDropOk]); rw [d_eq] at this; exact this)
theorem post_rdropOk : PostOk Φ cRDropOk := fun ρ hF hp => post_drop hF (fm hp (by simp [cRDropOk, preD])) (m2 hp (by simp [cRDropOk, preD])) (by have := hp (.eq dropEE (.lit 0)) (by simp [cRDropOk]); rw [d_eq] at this; exact this)
end Go.Proofs.YteblnjgghbclpaaDoor.wt
