/- Layer link: one stamp behind the other, step by step. No condition. -/
import Derived.Test.YtjgkaimgocnkmaaNb
set_option linter.unusedVariables false
set_option linter.unusedSimpArgs false
set_option linter.deprecated false
namespace Go.Proofs.Ytjgkaimgocnkmaa.lnk
open Go Go.Proofs.Ytjgkaimgocnkmaa.Sx
def stN (S : LV) (k : Nat) : Bool := stampN (Sx.atI S k 0) (Sx.atI S k 1)
/-- One stamp stands behind another one. -/
def gtN (a b : Int × Int) : Bool := decide (b.1 < a.1 ∨ (b.1 = a.1 ∧ b.2 < a.2))
def stampA (S : LV) (k : Nat) : Int × Int := (Sx.atI S k 0, Sx.atI S k 1)
/-- The last one taken of the first c. -/
def lastP (S : LV) (p : Int × Int) : Nat → Int × Int
  | 0 => p
  | c + 1 => if gtN (stampA S c) (lastP S p c) then stampA S c else lastP S p c
def tkN (S : LV) (p : Int × Int) (c : Nat) : Bool := gtN (stampA S c) (lastP S p c)
/-- Which of the first c are taken. -/
def takenL (S : LV) (p : Int × Int) : Nat → LV
  | 0 => []
  | c + 1 => if tkN S p c then takenL S p c ++ [[.int .i64 (c : Int)]] else takenL S p c
theorem taken_pre (S : LV) (p : Int × Int) : ∀ {e c : Nat}, c ≤ e → ∃ r, takenL S p e = takenL S p c ++ r
  | 0, c, h => ⟨[], by rw [show c = 0 by omega]; rfl⟩
  | e + 1, c, h => by
    by_cases q : c = e + 1
    · exact ⟨[], by rw [q, List.append_nil]⟩
    · obtain ⟨r, hr⟩ := taken_pre S p (show c ≤ e by omega)
      rw [takenL]
      split
      · exact ⟨r ++ [[.int .i64 (e : Int)]], by rw [hr, List.append_assoc]⟩
      · exact ⟨r, hr⟩
theorem taken_len (S : LV) (p : Int × Int) : ∀ c, (takenL S p c).length ≤ c
  | 0 => Nat.le_refl _
  | c + 1 => by
    have := taken_len S p c
    rw [takenL]
    split
    · rw [List.length_append, List.length_cons, List.length_nil]; omega
    · omega
/-- So far: L is what is held of the link, W what was taken. -/
structure Gone (S : LV) (p : Int × Int) (L : LV) (f : Int) (W : LV) (c : Int) : Prop where
  c0 : 0 ≤ c
  c1 : c ≤ (S.length : Int)
  val : ∀ k, k < c.toNat → stN S k = true
  l0 : clampK .i64 (intV (celV L f 0)) = (lastP S p c.toNat).1
  l1 : clampK .i64 (intV (celV L f 1)) = (lastP S p c.toNat).2
  w : W = takenL S p c.toNat
def firstPair (I : LV) (f : Int) : Int × Int := (clampK .i64 (intV (celV I f 0)), clampK .i64 (intV (celV I f 1)))
theorem gone0 {S I : LV} {f : Int} : Gone S (firstPair I f) I f [] 0 := ⟨by omega, by omega, fun k h => by simp at h, rfl, rfl, rfl⟩
theorem gone_take {S L W : LV} {p : Int × Int} {f c a b : Int} (g : Gone S p L f W c) (hf : 0 ≤ f) (hl : f < (L.length : Int)) (hc : c < (S.length : Int)) (ha : a = clampK .i64 (intV (celV S c 0))) (hb : b = clampK .i64 (intV (celV S c 1))) (hs : stampN a b = true) (hg : clampK .i64 (intV (celV L f 0)) < a ∨ (clampK .i64 (intV (celV L f 0)) = a ∧ clampK .i64 (intV (celV L f 1)) < b)) : Gone S p (L.set f.toNat [.int .i64 a, .int .i64 b]) f (W ++ [[.int .i64 c]]) (c + 1) ∧ tkN S p c.toNat = true := by
  have c0 := g.c0
  rw [at_z c0] at ha hb
  have hst : stampA S c.toNat = (a, b) := by rw [ha, hb]; rfl
  have t : tkN S p c.toNat = true := by
    unfold tkN gtN
    rw [hst, ← g.l0, ← g.l1]
    exact decide_eq_true hg
  have lp : lastP S p (c + 1).toNat = (a, b) := by
    rw [show (c + 1).toNat = c.toNat + 1 by omega, lastP]
    have t' : gtN (stampA S c.toNat) (lastP S p c.toNat) = true := t
    rw [if_pos t', hst]
  have hk : f.toNat < L.length := by omega
  have z := set_in (R := L) hk hs
  refine ⟨⟨by omega, by omega, ?_, ?_, ?_, ?_⟩, t⟩
  · intro k hk2
    by_cases q : k = c.toNat
    · subst q; unfold stN; rw [← ha, ← hb]; exact hs
    · exact g.val k (by omega)
  · rw [lp, at_z hf]; exact z.1
  · rw [lp, at_z hf]; exact z.2
  · rw [show (c + 1).toNat = c.toNat + 1 by omega, takenL, if_pos t, ← g.w, Int.toNat_of_nonneg c0]
theorem gone_skip {S L W : LV} {p : Int × Int} {f c a b : Int} (g : Gone S p L f W c) (hc : c < (S.length : Int)) (ha : a = clampK .i64 (intV (celV S c 0))) (hb : b = clampK .i64 (intV (celV S c 1))) (hs : stampN a b = true) (hg : ¬ (clampK .i64 (intV (celV L f 0)) < a ∨ (clampK .i64 (intV (celV L f 0)) = a ∧ clampK .i64 (intV (celV L f 1)) < b))) : Gone S p L f W (c + 1) ∧ tkN S p c.toNat = false := by
  have c0 := g.c0
  rw [at_z c0] at ha hb
  have hst : stampA S c.toNat = (a, b) := by rw [ha, hb]; rfl
  have t : tkN S p c.toNat = false := by
    unfold tkN gtN
    rw [hst, ← g.l0, ← g.l1]
    exact decide_eq_false hg
  have lp : lastP S p (c + 1).toNat = lastP S p c.toNat := by
    rw [show (c + 1).toNat = c.toNat + 1 by omega, lastP]
    have t' : gtN (stampA S c.toNat) (lastP S p c.toNat) = false := t
    rw [t', if_neg (by decide)]
  refine ⟨⟨by omega, by omega, ?_, ?_, ?_, ?_⟩, t⟩
  · intro k hk2
    by_cases q : k = c.toNat
    · subst q; unfold stN; rw [← ha, ← hb]; exact hs
    · exact g.val k (by omega)
  · rw [lp]; exact g.l0
  · rw [lp]; exact g.l1
  · rw [show (c + 1).toNat = c.toNat + 1 by omega, takenL, t, if_neg (by decide)]; exact g.w
/-- All that is taken. -/
structure Stop (S : LV) (p : Int × Int) (W : LV) : Prop where
  e : ∃ e : Nat, e ≤ S.length ∧ W = takenL S p e ∧ (∀ k, k < e → stN S k = true) ∧ (e = S.length ∨ stN S e = false)
theorem stop_of {S L W : LV} {p : Int × Int} {f c : Int} (g : Gone S p L f W c) (h : (S.length : Int) ≤ c ∨ stN S c.toNat = false) : Stop S p W := by
  have c0 := g.c0
  have c1 := g.c1
  refine ⟨c.toNat, by omega, g.w, g.val, ?_⟩
  rcases h with h | h
  · exact .inl (by omega)
  · exact .inr h
/-- Going over them: so far n of the first c. -/
structure Over (S : LV) (p : Int × Int) (L : LV) (f : Int) (W : LV) (n c : Int) : Prop where
  g : Gone S p L f (takenL S p c.toNat) c
  n : n = ((takenL S p c.toNat).length : Int)
  s : Stop S p W
theorem over0 {S I W : LV} {f : Int} (s : Stop S (firstPair I f) W) : Over S (firstPair I f) I f W 0 0 := ⟨gone0, rfl, s⟩
theorem over_le {S L W : LV} {p : Int × Int} {f n c : Int} (o : Over S p L f W n c) : ∃ e : Nat, c.toNat ≤ e ∧ e ≤ S.length ∧ W = takenL S p e ∧ (e = S.length ∨ stN S e = false) ∧ (∀ k, k < e → stN S k = true) := by
  obtain ⟨e, h1, h2, h3, h4⟩ := o.s.e
  refine ⟨e, ?_, h1, h2, h4, h3⟩
  by_cases q : c.toNat ≤ e
  · exact q
  · rcases h4 with h4 | h4
    · have := o.g.c1
      have := o.g.c0
      omega
    · have := o.g.val e (by omega)
      rw [h4] at this; cases this
theorem over_n {S L W : LV} {p : Int × Int} {f n c : Int} (o : Over S p L f W n c) : 0 ≤ n ∧ n ≤ (W.length : Int) := by
  obtain ⟨e, h1, h2, h3, _, _⟩ := over_le o
  obtain ⟨r, hr⟩ := taken_pre S p h1
  have := o.n
  rw [h3, hr, List.length_append]
  omega
theorem over_end {S L W : LV} {p : Int × Int} {f n c : Int} (o : Over S p L f W n c) (h : (S.length : Int) ≤ c ∨ stN S c.toNat = false) : n = (W.length : Int) := by
  obtain ⟨e, h1, h2, h3, h4, h5⟩ := over_le o
  have c0 := o.g.c0
  have q : e = c.toNat := by
    rcases h with h | h
    · omega
    · by_cases q : e = c.toNat
      · exact q
      · have := h5 c.toNat (by omega)
        rw [h] at this; cases this
  rw [o.n, h3, q]
theorem over_skip {S L W : LV} {p : Int × Int} {f n c a b : Int} (o : Over S p L f W n c) (hc : c < (S.length : Int)) (ha : a = clampK .i64 (intV (celV S c 0))) (hb : b = clampK .i64 (intV (celV S c 1))) (hs : stampN a b = true) (hg : ¬ (clampK .i64 (intV (celV L f 0)) < a ∨ (clampK .i64 (intV (celV L f 0)) = a ∧ clampK .i64 (intV (celV L f 1)) < b))) : Over S p L f W n (c + 1) := by
  obtain ⟨g, t⟩ := gone_skip o.g hc ha hb hs hg
  have c0 := o.g.c0
  have e : takenL S p (c + 1).toNat = takenL S p c.toNat := by rw [show (c + 1).toNat = c.toNat + 1 by omega, takenL, t, if_neg (by decide)]
  exact ⟨by rw [e]; exact g, by rw [e]; exact o.n, o.s⟩
structure Took (S : LV) (p : Int × Int) (L : LV) (f : Int) (W : LV) (n c a b : Int) : Prop where
  lt : n < (W.length : Int)
  at_ : clampK .i64 (intV (celV W n 0)) = c
  next : Over S p (L.set f.toNat [.int .i64 a, .int .i64 b]) f W (n + 1) (c + 1)
theorem over_take {S L W : LV} {p : Int × Int} {f n c a b : Int} (hm : (S.length : Int) ≤ 1000) (o : Over S p L f W n c) (hf : 0 ≤ f) (hl : f < (L.length : Int)) (hc : c < (S.length : Int)) (ha : a = clampK .i64 (intV (celV S c 0))) (hb : b = clampK .i64 (intV (celV S c 1))) (hs : stampN a b = true) (hg : clampK .i64 (intV (celV L f 0)) < a ∨ (clampK .i64 (intV (celV L f 0)) = a ∧ clampK .i64 (intV (celV L f 1)) < b)) : Took S p L f W n c a b := by
  obtain ⟨g, t⟩ := gone_take o.g hf hl hc ha hb hs hg
  have c0 := o.g.c0
  have hstc : stN S c.toNat = true := g.val c.toNat (by omega)
  have e : takenL S p (c + 1).toNat = takenL S p c.toNat ++ [[.int .i64 c]] := by rw [show (c + 1).toNat = c.toNat + 1 by omega, takenL, t, if_pos rfl, Int.toNat_of_nonneg c0]
  have o2 : Over S p (L.set f.toNat [.int .i64 a, .int .i64 b]) f W (n + 1) (c + 1) := ⟨by rw [e]; exact g, by rw [e, List.length_append, o.n]; rfl, o.s⟩
  obtain ⟨k, h1, h2, h3, _, _⟩ := over_le o2
  obtain ⟨r, hr⟩ := taken_pre S p h1
  have n2 := over_n o2
  refine ⟨by omega, ?_, o2⟩
  rw [h3, hr, e, o.n]
  have q : celV ((takenL S p c.toNat ++ [[Value.int .i64 c]]) ++ r) ((takenL S p c.toNat).length : Int) 0 = Value.int .i64 c := by
    have q2 : ((takenL S p c.toNat ++ [[Value.int .i64 c]]) ++ r).getD ((takenL S p c.toNat).length : Int).toNat [] = [Value.int .i64 c] := by
      rw [List.getD_eq_getElem?_getD, Int.toNat_natCast, List.append_assoc, List.getElem?_append_right (Nat.le_refl _), Nat.sub_self]; rfl
    unfold celV
    rw [q2]; rfl
  rw [q]
  show clampK .i64 c = c
  exact clampS (by omega) (by omega)
theorem stN_f {S : LV} {c : Int} (h0 : 0 ≤ c) (h : ¬ stampN (clampK .i64 (intV (celV S c 0))) (clampK .i64 (intV (celV S c 1))) = true) : stN S c.toNat = false := by
  unfold stN
  rw [← at_z h0, ← at_z h0]
  exact Bool.eq_false_iff.2 h
end Go.Proofs.Ytjgkaimgocnkmaa.lnk
