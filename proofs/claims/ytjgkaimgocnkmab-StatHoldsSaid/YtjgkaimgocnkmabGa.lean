/- Layer stat: what is known, behind learning in whatever order. No condition. -/
import Derived.Test.YtjgkaimgocnkmabFd
import Derived.Test.YtjgkaimgocnkmabSw
set_option linter.unusedVariables false
set_option linter.unusedSimpArgs false
set_option linter.deprecated false
namespace Go.Proofs.Ytjgkaimgocnkmab.stat
open Go Go.Proofs.Ytjgkaimgocnkmab.Sx
noncomputable section
def ks4 : List CK := [.int .i64, .bool, .int .i64, .int .i64]
def ln (r : Nat) : IE := .len (.rom r)
def zero4 : AL := .int .i64 (.lit 0) (.bool (.lit false) (.int .i64 (.lit 0) (.int .i64 (.lit 0) .nil)))
def ZER : LE := .fn 4 (.int .i64 manyC .nil)
def LRN : LE := .fn 2 (.lst (.rom 0) (.int .i64 (xv 5) (.int .i64 (xv 6) (.bool (.var 7) (.int .i64 (xv 8) (.int .i64 (xv 9) .nil))))))
def MORE : BE := .fn 4 (.lst (.rom 0) (.int .i64 (xv 5) (.int .i64 (xv 6) (.bool (.var 7) .nil))))
def allF (l : LE) : BE := .fn 1 (.lst l .nil)
def pX : SV := .agg [iv 6, .bool (.var 7), iv 8, iv 9]
def nilS : SV := .const (.slice none 0 0)
def preL : List BE := [shapeF 1 2 3, .eq (ln 0) manyC, allF (.rom 0)]
def rX : BE := rightF (xv 6) (.var 7) (xv 8) (xv 9)
def cNew : Ctr := ⟨12, [pShape], [], [shapeF 1 2 3], .tup [.sll 0 1 4 (.lit 0) (.len ZER) none, .int .i64 (.lit 0)], [(0, .rowl ZER (.len ZER) ks4 26 1 4)], 2, [allF ZER, .eq (.len ZER) manyC]⟩
def cLearnA : Ctr := ⟨23, [pShape, sl0 0, iv 5, pX], rS, preL ++ [rX, .le (.lit 0) (xv 5), .not (.le manyC (xv 5))], .tup [.sll 0 1 4 (.lit 0) (.len LRN) none, .bool MORE, .int .i64 (.lit 0)], [(0, .rowl LRN (.len LRN) ks4 26 1 4)], 2, [.eq (.len LRN) (ln 0), allF LRN]⟩
def cLearnB : Ctr := ⟨23, [pShape, sl0 0, iv 5, pX], rS, preL ++ [.not rX], .tup [nilS, .bool (.lit false), .int .i64 (.lit 2)], [], 0, []⟩
def cLearnC : Ctr := ⟨23, [pShape, sl0 0, iv 5, pX], rS, preL ++ [rX, .not (.le (.lit 0) (xv 5))], .tup [nilS, .bool (.lit false), .int .i64 (.lit 4)], [], 0, []⟩
def cLearnD : Ctr := ⟨23, [pShape, sl0 0, iv 5, pX], rS, preL ++ [rX, .le (.lit 0) (xv 5), .le manyC (xv 5)], .tup [nilS, .bool (.lit false), .int .i64 (.lit 4)], [], 0, []⟩
def rH : Roms := [(0, (5, [.int .i64, .int .i64, .bool, .int .i64, .int .i64])), (1, (1, [.int .i64]))]
def cHolds : Ctr := ⟨7, [pShape, sl0 0, sl0 1], rH, [], .bool (.lit true), [], 0, []⟩
end
theorem pb1 (l : LV) : Φ.b 1 [.lst l] = allR l l.length := rfl
theorem pb2 (k1 k2 k3 : IntKind) (n l s : Int) : Φ.b 2 [.int k1 n, .int k2 l, .int k3 s] = shapeN n l s := rfl
theorem pb3 (k1 k2 k3 : IntKind) (o : Int) (p : Bool) (m q : Int) : Φ.b 3 [.int k1 o, .bool p, .int k2 m, .int k3 q] = rightN o p m q := rfl
theorem pb4 (L : LV) (k1 k2 : IntKind) (k o : Int) (p : Bool) : Φ.b 4 [.lst L, .int k1 k, .int k2 o, .bool p] = moreN o p (atI L k 0) (atB L k 1) := rfl
theorem pl2 (L : LV) (k1 k2 k3 k4 : IntKind) (k o : Int) (p : Bool) (m q : Int) : Φ.l 2 [.lst L, .int k1 k, .int k2 o, .bool p, .int k3 m, .int k4 q] = learnL L k o p m q := rfl
theorem pl4 (k : IntKind) (n : Int) : Φ.l 4 [.int k n] = zeroL n := rfl
theorem zero_len {n : Int} (h : 1 ≤ n) : ((zeroL n).length : Int) = n := by unfold zeroL; rw [List.length_replicate]; omega
theorem more_iff (o : Int) (p : Bool) (a : Int) (b : Bool) : (moreN o p a b = true) = (a < o ∨ (o = a ∧ p = true ∧ b = false)) := by simp [moreN]
theorem more_f (o : Int) (p : Bool) (a : Int) (b : Bool) : (moreN o p a b = false) = (o ≤ a ∧ (o = a → p = true → b = true)) := by
  refine propext ⟨fun h => ?_, fun h => Bool.eq_false_iff.2 fun g => ?_⟩
  · have g : ¬ moreN o p a b = true := by rw [h]; exact Bool.false_ne_true
    rw [more_iff] at g
    refine ⟨by omega, fun e hp => ?_⟩
    cases b
    · exact absurd (.inr ⟨e, hp, rfl⟩) g
    · rfl
  · rw [more_iff] at g
    rcases g with g | ⟨e, hp, hb⟩
    · omega
    · rw [h.2 e hp] at hb; cases hb
theorem clamp_id {k : IntKind} {n : Int} (h : kmin k ≤ n ∧ n ≤ kmax k) : clampK k n = n := by unfold clampK; rw [if_pos h]
theorem stat_conf {e : List Value} (h : conf [.int .i64, .bool, .int .i64, .int .i64] e = true) : ∃ a b c d, e = [.int .i64 a, .bool b, .int .i64 c, .int .i64 d] ∧ (kmin .i64 ≤ a ∧ a ≤ kmax .i64) ∧ (kmin .i64 ≤ c ∧ c ≤ kmax .i64) ∧ (kmin .i64 ≤ d ∧ d ≤ kmax .i64) := by
  have key : ∀ {v : Value}, conf1 (.int .i64) v = true → ∃ n, v = .int .i64 n ∧ kmin .i64 ≤ n ∧ n ≤ kmax .i64 := by
    intro v hv
    obtain ⟨e, h1⟩ := conf1_int hv
    rw [clamp_id h1] at e
    exact ⟨_, e, h1⟩
  match e, h with
  | [v1, v2, v3, v4], h =>
    simp only [conf] at h
    obtain ⟨h1, h2⟩ := ifb h
    obtain ⟨h3, h4⟩ := ifb h2
    obtain ⟨h5, h6⟩ := ifb h4
    obtain ⟨h7, _⟩ := ifb h6
    obtain ⟨a, rfl, ha⟩ := key h1
    obtain ⟨c, rfl, hc⟩ := key h5
    obtain ⟨d, rfl, hd⟩ := key h7
    cases v2 <;> simp [conf1] at h3
    exact ⟨a, _, c, d, rfl, ha, hc, hd⟩
  | [], h => simp [conf] at h
  | [_], h => simp [conf] at h
  | [_, _], h => simp [conf] at h
  | [_, _, _], h => simp [conf] at h
  | _ :: _ :: _ :: _ :: _ :: _, h => simp [conf] at h
theorem stat_at {l : LV} (h : Typed [.int .i64, .bool, .int .i64, .int .i64] l) {i : Int} (h0 : 0 ≤ i) (hn : i < (l.length : Int)) : l[i.toNat]? = some [.int .i64 (clampK .i64 (intV (celV l i 0))), .bool (boolV (celV l i 1)), .int .i64 (clampK .i64 (intV (celV l i 2))), .int .i64 (clampK .i64 (intV (celV l i 3)))] := by
  have hl : i.toNat < l.length := by omega
  obtain ⟨a, b, c, d, he, ha, hc, hd⟩ := stat_conf (h _ (List.getElem_mem hl))
  have hg : l.getD i.toNat [] = l[i.toNat] := by rw [List.getD_eq_getElem?_getD, List.getElem?_eq_getElem hl]; rfl
  have c0 : celV l i 0 = .int .i64 a := by unfold celV; rw [hg, he]; rfl
  have c1 : celV l i 1 = .bool b := by unfold celV; rw [hg, he]; rfl
  have c2 : celV l i 2 = .int .i64 c := by unfold celV; rw [hg, he]; rfl
  have c3 : celV l i 3 = .int .i64 d := by unfold celV; rw [hg, he]; rfl
  rw [List.getElem?_eq_getElem hl, he, c0, c1, c2, c3]
  simp only [intV, boolV, clamp_id ha, clamp_id hc, clamp_id hd]
theorem odd_ok : OddOk Φ := fun n a h => by
  show Typed byteK (fl n a)
  unfold fl; split <;> first | (cases h; done) | exact Typed.nil _
/-- Two statuses of a site say the same and other things. -/
def Conf (N : LV) (i j : Int) : Prop := atI N i 0 = atI N j 0 ∧ atI N i 1 = atI N j 1 ∧ atB N i 2 = atB N j 2 ∧ ¬ (atI N i 3 = atI N j 3 ∧ atI N i 4 = atI N j 4)
def okS (N : LV) (m i : Int) : Prop := rightN (atI N i 1) (atB N i 2) (atI N i 3) (atI N i 4) = true ∧ 0 ≤ atI N i 0 ∧ atI N i 0 < m
/-- What is known: of some that came; nothing less than those of which P speaks. -/
structure Kn (N : LV) (m : Int) (L : LV) (P : Int → Prop) : Prop where
  len : (L.length : Int) = m
  val : ∀ a : Int, 0 ≤ a → a < m → (atI L a 0 = 0 ∧ atB L a 1 = false ∧ atI L a 2 = 0 ∧ atI L a 3 = 0) ∨ ∃ i : Int, 0 ≤ i ∧ i < N.length ∧ okS N m i ∧ atI N i 0 = a ∧ atI L a 0 = atI N i 1 ∧ atB L a 1 = atB N i 2 ∧ atI L a 2 = atI N i 3 ∧ atI L a 3 = atI N i 4
  top : ∀ i : Int, 0 ≤ i → i < N.length → P i → okS N m i → moreN (atI N i 1) (atB N i 2) (atI L (atI N i 0) 0) (atB L (atI N i 0) 1) = false
theorem kn_mono {N L : LV} {m : Int} {P Q : Int → Prop} (k : Kn N m L P) (h : ∀ j, 0 ≤ j → j < (N.length : Int) → Q j → P j) : Kn N m L Q := ⟨k.len, k.val, fun i h0 h1 q => k.top i h0 h1 (h i h0 h1 q)⟩
theorem kn_skip {N L : LV} {m i : Int} {P : Int → Prop} (k : Kn N m L P) (h : ¬ okS N m i) : Kn N m L (fun j => P j ∨ j = i) := ⟨k.len, k.val, fun j h0 h1 q o => by
  rcases q with q | q
  · exact k.top j h0 h1 q o
  · subst q; exact absurd o h⟩
theorem getD_set (L : LV) (k a : Nat) (x : List Value) : (L.set k x).getD a [] = if k = a ∧ a < L.length then x else L.getD a [] := by
  rw [List.getD_eq_getElem?_getD, List.getD_eq_getElem?_getD, List.getElem?_set]
  by_cases e : k = a
  · subst e
    by_cases h : k < L.length
    · simp [h]
    · simp [h]
  · simp [e]
theorem clampS' {n : Int} (h : kmin .i64 ≤ n ∧ n ≤ kmax .i64) : clampK .i64 n = n := by unfold clampK; rw [if_pos h]
theorem right_rng {o : Int} {p : Bool} {m q : Int} (h : rightN o p m q = true) : (kmin .i64 ≤ o ∧ o ≤ kmax .i64) ∧ (kmin .i64 ≤ m ∧ m ≤ kmax .i64) ∧ (kmin .i64 ≤ q ∧ q ≤ kmax .i64) := by
  rw [rightN_iff] at h
  have a : kmin .i64 = -9223372036854775808 := rfl
  have b : kmax .i64 = 9223372036854775807 := rfl
  omega
theorem set_at {L : LV} {k a o m q : Int} {p : Bool} (h0 : 0 ≤ k) (hk : k < L.length) (ha : 0 ≤ a) (hr : rightN o p m q = true) (j : Nat) : (a = k → (atI (L.set k.toNat [.int .i64 o, .bool p, .int .i64 m, .int .i64 q]) a 0 = o ∧ atB (L.set k.toNat [.int .i64 o, .bool p, .int .i64 m, .int .i64 q]) a 1 = p ∧ atI (L.set k.toNat [.int .i64 o, .bool p, .int .i64 m, .int .i64 q]) a 2 = m ∧ atI (L.set k.toNat [.int .i64 o, .bool p, .int .i64 m, .int .i64 q]) a 3 = q)) ∧ (a ≠ k → (atI (L.set k.toNat [.int .i64 o, .bool p, .int .i64 m, .int .i64 q]) a j = atI L a j ∧ atB (L.set k.toNat [.int .i64 o, .bool p, .int .i64 m, .int .i64 q]) a j = atB L a j)) := by
  obtain ⟨ho, hm, hq⟩ := right_rng hr
  refine ⟨fun e => ?_, fun e => ?_⟩
  · have g : (L.set k.toNat [.int .i64 o, .bool p, .int .i64 m, .int .i64 q]).getD a.toNat [] = [.int .i64 o, .bool p, .int .i64 m, .int .i64 q] := by
      rw [getD_set, if_pos ⟨by omega, by omega⟩]
    unfold atI atB celV
    rw [g]
    exact ⟨clampS' ho, rfl, clampS' hm, clampS' hq⟩
  · have g : (L.set k.toNat [.int .i64 o, .bool p, .int .i64 m, .int .i64 q]).getD a.toNat [] = L.getD a.toNat [] := by
      rw [getD_set, if_neg (by omega)]
    unfold atI atB celV
    rw [g]
    exact ⟨rfl, rfl⟩
theorem kn_learn {N L : LV} {m i : Int} {P : Int → Prop} (k : Kn N m L P) (h0 : 0 ≤ i) (hi : i < N.length) (ok : okS N m i) : Kn N m (learnL L (atI N i 0) (atI N i 1) (atB N i 2) (atI N i 3) (atI N i 4)) (fun j => P j ∨ j = i) := by
  obtain ⟨hr, s0, s1⟩ := ok
  have hl := k.len
  unfold learnL
  by_cases c : moreN (atI N i 1) (atB N i 2) (atI L (atI N i 0) 0) (atB L (atI N i 0) 1) = true
  · rw [if_pos c]
    have S := fun a ha j => set_at (L := L) (k := atI N i 0) (a := a) s0 (by omega) ha hr j
    refine ⟨by rw [List.length_set]; exact hl, fun a a0 a1 => ?_, fun j j0 j1 q o => ?_⟩
    · by_cases e : a = atI N i 0
      · obtain ⟨e0, e1, e2, e3⟩ := (S a a0 0).1 e
        exact .inr ⟨i, h0, hi, ⟨hr, s0, s1⟩, e.symm, e0, e1, e2, e3⟩
      · rw [((S a a0 0).2 e).1, ((S a a0 1).2 e).2, ((S a a0 2).2 e).1, ((S a a0 3).2 e).1]
        exact k.val a a0 a1
    · by_cases e : atI N j 0 = atI N i 0
      · obtain ⟨e0, e1, e2, e3⟩ := (S (atI N j 0) o.2.1 0).1 e
        rw [e0, e1]
        rcases q with q | q
        · have t := k.top j j0 j1 q o
          rw [e, more_f] at t
          rw [more_iff] at c
          rw [more_f]
          refine ⟨by omega, fun e4 hp => ?_⟩
          rcases c with c | ⟨c1, c2, c3⟩
          · omega
          · exact c2
        · subst q
          rw [more_f]
          exact ⟨by omega, fun _ h => h⟩
      · rw [((S (atI N j 0) o.2.1 0).2 e).1, ((S (atI N j 0) o.2.1 1).2 e).2]
        rcases q with q | q
        · exact k.top j j0 j1 q o
        · subst q; exact absurd rfl e
  · rw [if_neg c]
    refine ⟨hl, k.val, fun j j0 j1 q o => ?_⟩
    rcases q with q | q
    · exact k.top j j0 j1 q o
    · subst q; exact Bool.eq_false_iff.2 c
theorem kn_skip2 {N L : LV} {m i : Int} {P : Int → Prop} (k : Kn N m L P) (h : ¬ (rightN (clampK .i64 (intV (celV N i 1))) (boolV (celV N i 2)) (clampK .i64 (intV (celV N i 3))) (clampK .i64 (intV (celV N i 4))) = true ∧ 0 ≤ clampK .i64 (intV (celV N i 0)) ∧ clampK .i64 (intV (celV N i 0)) < m)) : Kn N m L (fun j => P j ∨ j = i) := kn_skip k h
theorem kn_learn2 {N L : LV} {m i : Int} {P : Int → Prop} (k : Kn N m L P) (h0 : 0 ≤ i) (hi : i < N.length) (hr : rightN (clampK .i64 (intV (celV N i 1))) (boolV (celV N i 2)) (clampK .i64 (intV (celV N i 3))) (clampK .i64 (intV (celV N i 4))) = true) (s0 : 0 ≤ clampK .i64 (intV (celV N i 0))) (s1 : clampK .i64 (intV (celV N i 0)) < m) : Kn N m (learnL L (clampK .i64 (intV (celV N i 0))) (clampK .i64 (intV (celV N i 1))) (boolV (celV N i 2)) (clampK .i64 (intV (celV N i 3))) (clampK .i64 (intV (celV N i 4)))) (fun j => P j ∨ j = i) := kn_learn k h0 hi ⟨hr, s0, s1⟩
theorem rep_at {n : Nat} {a : Int} (ha : 0 ≤ a) (hn : a < n) : (List.replicate n [Value.int .i64 0, Value.bool false, Value.int .i64 0, Value.int .i64 0]).getD a.toNat [] = [Value.int .i64 0, Value.bool false, Value.int .i64 0, Value.int .i64 0] := by
  rw [List.getD_eq_getElem?_getD, List.getElem?_replicate, if_pos (by omega)]; rfl
theorem kn_zero {N : LV} {n m : Int} (h : ((zeroL n).length : Int) = m) : Kn N m (zeroL n) (fun _ => False) :=
  ⟨h, fun a a0 a1 => .inl (by
    have g := rep_at (n := n.toNat) a0 (by unfold zeroL at h; rw [List.length_replicate] at h; omega)
    unfold atI atB celV zeroL
    rw [g]
    exact ⟨rfl, rfl, rfl, rfl⟩), fun i _ _ f => f.elim⟩
theorem kn_eq {N A B : LV} {m : Int} {P Q : Int → Prop} (hA : Typed ks4 A) (hB : Typed ks4 B) (nc : ∀ i j : Int, 0 ≤ j → j < i → i < N.length → ¬ Conf N i j) (a : Kn N m A P) (b : Kn N m B Q) (hp : ∀ i : Int, 0 ≤ i → i < N.length → P i) (hq : ∀ i : Int, 0 ≤ i → i < N.length → Q i) : A = B := by
  have la := a.len
  have lb := b.len
  have one : ∀ {A B : LV} {P Q : Int → Prop} (a : Kn N m A P) (b : Kn N m B Q) (hp : ∀ i : Int, 0 ≤ i → i < N.length → P i) (x : Int) (h0 : 0 ≤ x) (h1 : x < m), (atI A x 0 = 0 ∧ atB A x 1 = false ∧ atI A x 2 = 0 ∧ atI A x 3 = 0) → atI A x 0 = atI B x 0 ∧ atB A x 1 = atB B x 1 ∧ atI A x 2 = atI B x 2 ∧ atI A x 3 = atI B x 3 := by
    intro A B P Q a b hp x h0 h1 ⟨z0, z1, z2, z3⟩
    rcases b.val x h0 h1 with ⟨y0, y1, y2, y3⟩ | ⟨j, j0, j1, o, e, y0, y1, y2, y3⟩
    · rw [z0, z1, z2, z3, y0, y1, y2, y3]; exact ⟨rfl, rfl, rfl, rfl⟩
    · have t := a.top j j0 j1 (hp j j0 j1) o
      rw [e, z0, z1, more_f] at t
      have r := o.1
      rw [rightN_iff] at r
      have p0 : atB N j 2 = false := by
        cases hb : atB N j 2
        · rfl
        · rw [hb] at r
          have := t.2 (by omega) hb
          cases this
      rw [p0] at r
      rw [z0, z1, z2, z3, y0, y1, y2, y3, p0]
      rcases r with r | r
      · exact absurd r.1 (by decide)
      · exact ⟨by omega, rfl, by omega, by omega⟩
  have key : ∀ x : Int, 0 ≤ x → x < m → atI A x 0 = atI B x 0 ∧ atB A x 1 = atB B x 1 ∧ atI A x 2 = atI B x 2 ∧ atI A x 3 = atI B x 3 := by
    intro x h0 h1
    rcases a.val x h0 h1 with z | ⟨i, i0, i1, o, e, y0, y1, y2, y3⟩
    · exact one a b hp x h0 h1 z
    · rcases b.val x h0 h1 with z | ⟨j, j0, j1, o', e', w0, w1, w2, w3⟩
      · have g := one b a hq x h0 h1 z
        exact ⟨g.1.symm, g.2.1.symm, g.2.2.1.symm, g.2.2.2.symm⟩
      · have t := a.top j j0 j1 (hp j j0 j1) o'
        have t' := b.top i i0 i1 (hq i i0 i1) o
        rw [e', y0, y1, more_f] at t
        rw [e, w0, w1, more_f] at t'
        have e1 : atI N i 1 = atI N j 1 := by omega
        have e2 : atB N i 2 = atB N j 2 := by
          have u := t.2 e1.symm
          have u' := t'.2 e1
          cases hb : atB N i 2 <;> cases hc : atB N j 2 <;> simp only [hb, hc] at u u' ⊢ <;> simp_all
        have e34 : atI N i 3 = atI N j 3 ∧ atI N i 4 = atI N j 4 := by
          rcases Int.lt_trichotomy i j with c | c | c
          · have n := nc j i i0 c j1
            by_cases d : atI N j 3 = atI N i 3 ∧ atI N j 4 = atI N i 4
            · exact ⟨d.1.symm, d.2.symm⟩
            · exact absurd ⟨by omega, e1.symm, e2.symm, d⟩ n
          · subst c; exact ⟨rfl, rfl⟩
          · have n := nc i j j0 c i1
            by_cases d : atI N i 3 = atI N j 3 ∧ atI N i 4 = atI N j 4
            · exact d
            · exact absurd ⟨by omega, e1, e2, d⟩ n
        rw [y0, y1, y2, y3, w0, w1, w2, w3]
        exact ⟨e1, e2, e34.1, e34.2⟩
  refine List.ext_getElem? fun n => ?_
  by_cases h : n < A.length
  · have ga := stat_at hA (i := (n : Int)) (by omega) (by omega)
    have gb := stat_at hB (i := (n : Int)) (by omega) (by omega)
    rw [Int.toNat_natCast] at ga gb
    obtain ⟨k0, k1, k2, k3⟩ := key (n : Int) (by omega) (by omega)
    unfold atI at k0 k2 k3
    unfold atB at k1
    rw [ga, gb, k0, k1, k2, k3]
  · rw [List.getElem?_eq_none (by omega), List.getElem?_eq_none (by omega)]
theorem allR_at {l : LV} : ∀ {n : Nat}, (allR l n = true) = (∀ k, k < n → rightE l (k : Int) = true)
  | 0 => by simp [allR]
  | n + 1 => by
    rw [allR, Bool.and_eq_true, allR_at (n := n)]
    refine propext ⟨fun h k hk => ?_, fun h => ⟨fun k hk => h k (by omega), h n (by omega)⟩⟩
    by_cases e : k = n
    · subst e; exact h.2
    · exact h.1 k (by omega)
theorem learn_len {L : LV} {k o m q : Int} {p : Bool} : (learnL L k o p m q).length = L.length := by
  unfold learnL; split
  · rw [List.length_set]
  · rfl
theorem learn_right {L : LV} {k o m q : Int} {p : Bool} (h : allR L L.length = true) (h0 : 0 ≤ k) (hk : k < L.length) (hr : rightN o p m q = true) : allR (learnL L k o p m q) (learnL L k o p m q).length = true := by
  rw [learn_len]
  unfold learnL
  split
  · rw [allR_at] at h ⊢
    intro x hx
    have S := fun j => set_at (L := L) (k := k) (a := (x : Int)) h0 hk (by omega) hr j
    unfold rightE
    by_cases e : (x : Int) = k
    · obtain ⟨e0, e1, e2, e3⟩ := (S 0).1 e
      rw [e0, e1, e2, e3]; exact hr
    · rw [((S 0).2 e).1, ((S 1).2 e).2, ((S 2).2 e).1, ((S 3).2 e).1]
      exact h x hx
  · exact h
theorem zero_right {n : Nat} : allR (List.replicate n [.int .i64 0, .bool false, .int .i64 0, .int .i64 0]) (List.replicate n [Value.int .i64 0, Value.bool false, Value.int .i64 0, Value.int .i64 0]).length = true := by
  rw [allR_at, List.length_replicate]
  intro k hk
  have g := rep_at (n := n) (a := (k : Int)) (by omega) (by omega)
  unfold rightE atI atB celV
  rw [g]; rfl
theorem post_sites : PostOk Φ cSites1 := by
  intro ρ hF hp
  have h1 : (shapeF 1 2 3).den ρ = true := hp _ (List.mem_singleton.2 rfl)
  rw [shapeF_den hF, shapeN_iff] at h1
  obtain ⟨a1, a2, _, _, b1, b2⟩ := h1
  have m1 : (1 : Int) * 1 ≤ ρ.i .i64 1 * ρ.i .i64 3 := Int.mul_le_mul a1 b1 (by omega) (by omega)
  have m2 : ρ.i .i64 1 * ρ.i .i64 3 ≤ 64 * 4 := Int.mul_le_mul a2 b2 (by omega) (by omega)
  have hw : manyC.den ρ = ρ.i .i64 1 * ρ.i .i64 3 := by
    simp only [manyC, IE.den, xv]
    exact wrap_in .i64 _ (by show (-9223372036854775808 : Int) ≤ _; omega) (by show _ ≤ (9223372036854775807 : Int); omega)
  refine (fun p hp => ?_)
  simp only [cSites1, List.mem_cons, List.not_mem_nil, or_false] at hp
  rcases hp with rfl | rfl
  · rw [d_le, hw]; simp only [IE.den]; omega
  · rw [d_le, hw]; simp only [IE.den]; omega
theorem many_in {ρ : Rho} {n : Nat} {e : IE} : True := trivial
theorem post_new : PostOk Φ cNew := by
  intro ρ hF hp
  have h1 : (shapeF 1 2 3).den ρ = true := hp _ (List.mem_singleton.2 rfl)
  have hs := post_sites ρ hF (fun p h => by rw [List.mem_singleton.1 h]; exact h1)
  have h2 : (BE.le (.lit 1) manyC).den ρ = true := hs _ (List.mem_cons_self ..)
  rw [d_le] at h2
  have h3 : (1 : Int) ≤ manyC.den ρ := h2
  refine (fun p hp => ?_)
  simp only [cNew, List.mem_cons, List.not_mem_nil, or_false] at hp
  rcases hp with rfl | rfl
  · show ρ.z.F.b 1 [.lst (ZER.den ρ)] = true
    have e : ZER.den ρ = zeroL (manyC.den ρ) := by
      show ρ.z.F.l 4 _ = _
      rw [hF]; rfl
    rw [hF, pb1, e]
    exact zero_right
  · rw [d_eq]
    have e : ZER.den ρ = zeroL (manyC.den ρ) := by
      show ρ.z.F.l 4 _ = _
      rw [hF]; rfl
    show ((ZER.den ρ).length : Int) = manyC.den ρ
    rw [e, zero_len h3]
theorem post_learnA : PostOk Φ cLearnA := by
  intro ρ hF hp
  have hp : Holds ρ [_, _, _, _, _, _] := hp
  simp only [h_nil, h_cons, d_le, d_not, d_eq, and_true] at hp
  obtain ⟨h1, h2, h3, h4, h5, h6⟩ := hp
  rw [rX, rightF_den hF] at h4
  have h3' : ρ.z.F.b 1 [.lst (ρ.z.rl 0)] = true := h3
  rw [hF, pb1] at h3'
  have h2' : ((ρ.z.rl 0).length : Int) = manyC.den ρ := h2
  have h5' : 0 ≤ ρ.i .i64 5 := h5
  have h6' : ¬ manyC.den ρ ≤ ρ.i .i64 5 := h6
  have e : LRN.den ρ = learnL (ρ.z.rl 0) (ρ.i .i64 5) (ρ.i .i64 6) (ρ.b 7) (ρ.i .i64 8) (ρ.i .i64 9) := by
    show ρ.z.F.l 2 _ = _
    rw [hF]; rfl
  refine (fun p hp => ?_)
  simp only [cLearnA, List.mem_cons, List.not_mem_nil, or_false] at hp
  rcases hp with rfl | rfl
  · rw [d_eq]
    show ((LRN.den ρ).length : Int) = ((ρ.z.rl 0).length : Int)
    rw [e, learn_len]
  · show ρ.z.F.b 1 [.lst (LRN.den ρ)] = true
    rw [hF, pb1, e]
    exact learn_right h3' h5' (by omega) h4
end Go.Proofs.Ytjgkaimgocnkmab.stat
