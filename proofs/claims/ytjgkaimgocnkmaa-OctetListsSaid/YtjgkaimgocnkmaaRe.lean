/- Layer octet: a number at a place, step by step. No condition. -/
import Derived.Test.YtjgkaimgocnkmaaRa
set_option linter.unusedVariables false
set_option linter.unusedSimpArgs false
set_option linter.deprecated false
namespace Go.Proofs.Ytjgkaimgocnkmaa.oct
open Go Go.Proofs.Ytjgkaimgocnkmaa.Sx
/-- A number is under way, from a on; the window begins at o; i of its bytes are read, x is what they tell. -/
structure Nu (R : LV) (a o i x : Int) : Prop where
  a0 : 0 ≤ a ∧ a ≤ (R.length : Int)
  ho : o = a ∨ a = (R.length : Int)
  hf : firstP (stopP (R.drop a.toNat)) i.toNat = i.toNat
  hx : x = valI (R.drop a.toNat) i.toNat
  le : i ≤ (R.length : Int) - a
theorem nlen {R : LV} {a : Int} (h : 0 ≤ a ∧ a ≤ (R.length : Int)) : (((R.drop a.toNat).length : Nat) : Int) = (R.length : Int) - a := by
  rw [List.length_drop]; omega
theorem ncel {R : LV} {a i : Int} {j : Nat} (ha : 0 ≤ a) (hi : 0 ≤ i) : celV (R.drop a.toNat) i j = celV R (a + i) j := by
  have e : (R.drop a.toNat).getD i.toNat [] = R.getD (a + i).toNat [] := by
    rw [List.getD_eq_getElem?_getD, List.getD_eq_getElem?_getD, List.getElem?_drop, show a.toNat + i.toNat = (a + i).toNat by omega]
  unfold celV
  rw [e]
theorem nu0 {R : LV} {a o : Int} (h : 0 ≤ a ∧ a ≤ (R.length : Int)) (ho : o = a ∨ a = (R.length : Int)) : Nu R a o 0 0 := ⟨h, ho, rfl, rfl, by omega⟩
theorem nu9 {R : LV} {a o i x : Int} (u : Nu R a o i x) : i ≤ 9 := by
  have := run9 u.hf
  omega
theorem nu_end {R : LV} {a o i x : Int} (u : Nu R a o i x) (h0 : 0 ≤ i) (h : (R.length : Int) - a ≤ i) : rdE (R.drop a.toNat) = 110 := by
  have hl := nlen u.a0
  have h2 := u.le
  exact (r_end (R := R.drop a.toNat) (i := i) (by omega) (by omega) u.hf).2.2
theorem nu_cell {R : LV} {a o i x : Int} (u : Nu R a o i x) (h0 : 0 ≤ i) (h : i < (R.length : Int) - a) : celV R (o + i) 0 = celV (R.drop a.toNat) i 0 := by
  have := u.a0
  rcases u.ho with c | c
  · rw [c, ncel (by omega) h0]
  · omega
theorem nu_bad {R : LV} {a o i x : Int} (u : Nu R a o i x) (h0 : 0 ≤ i) (h : i < (R.length : Int) - a) {b : Int} (e : b = clampK .u8 (intV (celV R (o + i) 0))) (hb : (0 < i ∧ b = 0) ∨ (i = 9 ∧ 1 < b)) : rdE (R.drop a.toNat) = 111 := by
  have hl := nlen u.a0
  subst e
  rw [nu_cell u h0 h] at hb
  exact (r_bad (R := R.drop a.toNat) (i := i) h0 (by omega) u.hf (bad_t h0 hb)).2.2
theorem nu_go {R : LV} {a o i x : Int} (u : Nu R a o i x) (h0 : 0 ≤ i) (h : i < (R.length : Int) - a) {b : Int} (e : b = clampK .u8 (intV (celV R (o + i) 0))) (hb : ¬ (0 < i ∧ b = 0)) (hb2 : ¬ (i = 9 ∧ 1 < b)) (h8 : 128 ≤ b) : Nu R a o (i + 1) (binI .or .u64 x (binI .shl .u64 (binI .and .u8 b 127) (7 * i))) := by
  subst e
  rw [nu_cell u h0 h] at hb hb2 h8 ⊢
  have bf := bad_f h0 hb hb2
  refine ⟨u.a0, u.ho, go_on h0 u.hf bf h8, ?_, by omega⟩
  rw [u.hx]; exact read_v h0 u.hf bf
theorem nu_read {R : LV} {a o i x : Int} (u : Nu R a o i x) (h0 : 0 ≤ i) (h : i < (R.length : Int) - a) {b : Int} (e : b = clampK .u8 (intV (celV R (o + i) 0))) (hb : ¬ (0 < i ∧ b = 0)) (hb2 : ¬ (i = 9 ∧ 1 < b)) (h8 : b < 128) : rdE (R.drop a.toNat) = 0 ∧ rdN (R.drop a.toNat) = i + 1 ∧ rdV (R.drop a.toNat) = binI .or .u64 x (binI .shl .u64 (binI .and .u8 b 127) (7 * i)) := by
  have hl := nlen u.a0
  subst e
  rw [nu_cell u h0 h] at hb hb2 h8 ⊢
  have bf := bad_f h0 hb hb2
  have k := r_ok (R := R.drop a.toNat) (i := i) h0 (by omega) u.hf bf h8
  have rv := read_v h0 u.hf bf
  rw [← u.hx] at rv
  exact ⟨k.2.2, k.2.1, by rw [k.1, rv]⟩
theorem nu_start {R : LV} {x : Int} (h : x = 0) : Nu R 0 0 0 x := by
  subst h
  exact nu0 ⟨by omega, by omega⟩ (.inl rfl)
theorem d0 (R : LV) : R.drop (0 : Int).toNat = R := rfl
/-- A text is read: its number, then its bytes. -/
theorem text_ok {R : LV} {a n v : Int} (hT : Typed byteK R) (ha : 0 ≤ a ∧ a ≤ (R.length : Int)) (h1 : rdE (R.drop a.toNat) = 0) (h2 : rdN (R.drop a.toNat) = n) (h3 : rdV (R.drop a.toNat) = v) (hv : v ≤ (R.length : Int) - (a + n)) (h0 : 0 ≤ n) :
    txtE (R.drop a.toNat) = 0 ∧ txtN (R.drop a.toNat) = n + v ∧ txtL (R.drop a.toNat) = (R.drop (a + n).toNat).take v.toNat := by
  have hl := nlen ha
  have hd : Typed byteK (R.drop a.toNat) := fun e he => hT e (List.mem_of_mem_drop he)
  have t := tx_ok hd h1 (by omega)
  refine ⟨t.2.2, by rw [t.2.1, h2, h3], ?_⟩
  rw [t.1, h2, h3, List.drop_drop, show a.toNat + n.toNat = (a + n).toNat by omega]
theorem text_long {R : LV} {a n v : Int} (ha : 0 ≤ a ∧ a ≤ (R.length : Int)) (h1 : rdE (R.drop a.toNat) = 0) (h2 : rdN (R.drop a.toNat) = n) (h3 : rdV (R.drop a.toNat) = v) (hv : ¬ v ≤ (R.length : Int) - (a + n)) : txtE (R.drop a.toNat) = 110 := by
  have hl := nlen ha
  exact (tx_long h1 (by omega)).2.2
theorem text_no {R : LV} {a : Int} (h : ¬ rdE (R.drop a.toNat) = 0) : txtE (R.drop a.toNat) = rdE (R.drop a.toNat) := (tx_no h).2.2
end Go.Proofs.Ytjgkaimgocnkmaa.oct
