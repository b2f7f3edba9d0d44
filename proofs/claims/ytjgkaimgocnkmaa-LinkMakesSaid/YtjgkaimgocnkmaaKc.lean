/- Layer link: what is told ahead, first part. No condition. -/
import Derived.Test.YtjgkaimgocnkmaaKb
set_option linter.unusedVariables false
set_option linter.unusedSimpArgs false
set_option linter.deprecated false
namespace Go.Proofs.Ytjgkaimgocnkmaa.link
open Go Go.Proofs.Ytjgkaimgocnkmaa.Sx
noncomputable section
def vwStamp : List VW := [VW.done [BE.le (IE.lit 1) (IE.var .i64 2), BE.le (IE.var .i64 1) (IE.lit 1099511627776), BE.le (IE.lit 1) (IE.var .i64 1), BE.lit true] (some [G.b (BE.fn 4 (AL.int .i64 (IE.var .i64 1) (AL.int .i64 (IE.var .i64 2) AL.nil))) (BE.le (IE.var .i64 2) (IE.lit 1099511627776))]), VW.done [(BE.le (IE.lit 1) (IE.var .i64 2)).not, BE.le (IE.var .i64 1) (IE.lit 1099511627776), BE.le (IE.lit 1) (IE.var .i64 1), BE.lit true] (some [G.b (BE.fn 4 (AL.int .i64 (IE.var .i64 1) (AL.int .i64 (IE.var .i64 2) AL.nil))) (BE.lit false)]), VW.done [(BE.le (IE.var .i64 1) (IE.lit 1099511627776)).not, BE.le (IE.lit 1) (IE.var .i64 1), BE.lit true] (some [G.b (BE.fn 4 (AL.int .i64 (IE.var .i64 1) (AL.int .i64 (IE.var .i64 2) AL.nil))) (BE.lit false)]), VW.done [(BE.le (IE.lit 1) (IE.var .i64 1)).not, BE.lit true] (some [G.b (BE.fn 4 (AL.int .i64 (IE.var .i64 1) (AL.int .i64 (IE.var .i64 2) AL.nil))) (BE.lit false)])]
def vwRefStamp : List VW := [VW.done [BE.le (IE.lit 1) (IE.var .i64 2), BE.le (IE.var .i64 1) (IE.lit 1099511627776), BE.le (IE.lit 1) (IE.var .i64 1), BE.lit true] (some [G.b (BE.fn 4 (AL.int .i64 (IE.var .i64 1) (AL.int .i64 (IE.var .i64 2) AL.nil))) (BE.le (IE.var .i64 2) (IE.lit 1099511627776))]), VW.done [(BE.le (IE.lit 1) (IE.var .i64 2)).not, BE.le (IE.var .i64 1) (IE.lit 1099511627776), BE.le (IE.lit 1) (IE.var .i64 1), BE.lit true] (some [G.b (BE.fn 4 (AL.int .i64 (IE.var .i64 1) (AL.int .i64 (IE.var .i64 2) AL.nil))) (BE.lit false)]), VW.done [(BE.le (IE.var .i64 1) (IE.lit 1099511627776)).not, BE.le (IE.lit 1) (IE.var .i64 1), BE.lit true] (some [G.b (BE.fn 4 (AL.int .i64 (IE.var .i64 1) (AL.int .i64 (IE.var .i64 2) AL.nil))) (BE.lit false)]), VW.done [(BE.le (IE.lit 1) (IE.var .i64 1)).not, BE.lit true] (some [G.b (BE.fn 4 (AL.int .i64 (IE.var .i64 1) (AL.int .i64 (IE.var .i64 2) AL.nil))) (BE.lit false)])]
def vwIn : List VW := [VW.done [BE.eq (IE.var .i64 2) (IE.lit 0), BE.eq (IE.var .i64 1) (IE.lit 0), BE.lit true] (some [G.b (BE.fn 5 (AL.int .i64 (IE.var .i64 1) (AL.int .i64 (IE.var .i64 2) AL.nil))) (BE.lit true)]), VW.done [(BE.eq (IE.var .i64 2) (IE.lit 0)).not, BE.eq (IE.var .i64 1) (IE.lit 0), BE.lit true] (some [G.b (BE.fn 5 (AL.int .i64 (IE.var .i64 1) (AL.int .i64 (IE.var .i64 2) AL.nil))) (BE.fn 4 (AL.int .i64 (IE.var .i64 1) (AL.int .i64 (IE.var .i64 2) AL.nil)))]), VW.done [(BE.eq (IE.var .i64 1) (IE.lit 0)).not, BE.lit true] (some [G.b (BE.fn 5 (AL.int .i64 (IE.var .i64 1) (AL.int .i64 (IE.var .i64 2) AL.nil))) (BE.fn 4 (AL.int .i64 (IE.var .i64 1) (AL.int .i64 (IE.var .i64 2) AL.nil)))])]
def vwOut : List VW := [VW.done [BE.eq (IE.var .i64 1) (IE.lit 0), BE.lit true] (some [G.b (BE.fn 6 (AL.int .i64 (IE.var .i64 1) AL.nil)) (BE.lit true)]), VW.done [BE.le (IE.lit 1) (IE.var .i64 1), (BE.eq (IE.var .i64 1) (IE.lit 0)).not, BE.lit true] (some [G.b (BE.fn 6 (AL.int .i64 (IE.var .i64 1) AL.nil)) (BE.le (IE.var .i64 1) (IE.lit 1099511627776))]), VW.done [(BE.le (IE.lit 1) (IE.var .i64 1)).not, (BE.eq (IE.var .i64 1) (IE.lit 0)).not, BE.lit true] (some [G.b (BE.fn 6 (AL.int .i64 (IE.var .i64 1) AL.nil)) (BE.lit false)])]
def vwO0 : List VW := [VW.cut 1 [BE.lit true] { i := [(.i64, 1001, IE.lit 0)], b := [], l := [], v := [], a := [], r := [] }]
def vwO1 : List VW := [VW.done [BE.le (IE.len (LE.rom 0)) (IE.var .i64 1001), BE.lit true, BE.le (IE.lit 0) (IE.var .i64 1001), BE.le (IE.var .i64 1001) (IE.len (LE.rom 0))] (some [G.b (BE.fn 1 (AL.lst (LE.rom 0) AL.nil)) (BE.lit true)]), VW.cut 1 [BE.fn 6 (AL.int .i64 (IE.cel .i64 (LE.rom 0) (IE.var .i64 1001) 0) AL.nil), (BE.le (IE.len (LE.rom 0)) (IE.var .i64 1001)).not, BE.lit true, BE.le (IE.lit 0) (IE.var .i64 1001), BE.le (IE.var .i64 1001) (IE.len (LE.rom 0))] { i := [(.i64, 1001, (IE.var .i64 1001).add (IE.lit 1))], b := [], l := [], v := [], a := [], r := [] }, VW.done [(BE.fn 6 (AL.int .i64 (IE.cel .i64 (LE.rom 0) (IE.var .i64 1001) 0) AL.nil)).not, (BE.le (IE.len (LE.rom 0)) (IE.var .i64 1001)).not, BE.lit true, BE.le (IE.lit 0) (IE.var .i64 1001), BE.le (IE.var .i64 1001) (IE.len (LE.rom 0))] (some [G.b (BE.fn 1 (AL.lst (LE.rom 0) AL.nil)) (BE.lit false)])]
def vwI0 : List VW := [VW.cut 1 [BE.lit true] { i := [(.i64, 1001, IE.lit 0)], b := [], l := [], v := [], a := [], r := [] }]
def vwI1 : List VW := [VW.done [BE.le (IE.len (LE.rom 0)) (IE.var .i64 1001), BE.lit true, BE.le (IE.lit 0) (IE.var .i64 1001), BE.le (IE.var .i64 1001) (IE.len (LE.rom 0))] (some [G.b (BE.fn 2 (AL.lst (LE.rom 0) AL.nil)) (BE.lit true)]), VW.cut 1 [BE.fn 5 (AL.int .i64 (IE.cel .i64 (LE.rom 0) (IE.var .i64 1001) 0) (AL.int .i64 (IE.cel .i64 (LE.rom 0) (IE.var .i64 1001) 1) AL.nil)), (BE.le (IE.len (LE.rom 0)) (IE.var .i64 1001)).not, BE.lit true, BE.le (IE.lit 0) (IE.var .i64 1001), BE.le (IE.var .i64 1001) (IE.len (LE.rom 0))] { i := [(.i64, 1001, (IE.var .i64 1001).add (IE.lit 1))], b := [], l := [], v := [], a := [], r := [] }, VW.done [(BE.fn 5 (AL.int .i64 (IE.cel .i64 (LE.rom 0) (IE.var .i64 1001) 0) (AL.int .i64 (IE.cel .i64 (LE.rom 0) (IE.var .i64 1001) 1) AL.nil))).not, (BE.le (IE.len (LE.rom 0)) (IE.var .i64 1001)).not, BE.lit true, BE.le (IE.lit 0) (IE.var .i64 1001), BE.le (IE.var .i64 1001) (IE.len (LE.rom 0))] (some [G.b (BE.fn 2 (AL.lst (LE.rom 0) AL.nil)) (BE.lit false)])]
def vwO : Nat → List VW
  | 0 => vwO0
  | _ => vwO1
def vwI : Nat → List VW
  | 0 => vwI0
  | _ => vwI1
def invO : Nat → Lt → Prop
  | 0, _ => True
  | _, t => allO (t.z.rl 0) (t.i .i64 1001).toNat = true
def invI : Nat → Lt → Prop
  | 0, _ => True
  | _, t => allI (t.z.rl 0) (t.i .i64 1001).toNat = true
def ms1 : Nat → Lt → Nat
  | 0, t => (t.z.rl 0).length + 1
  | _, t => (t.z.rl 0).length - (t.i .i64 1001).toNat
end
theorem allP_le {p : Nat → Bool} : ∀ {n m : Nat}, allP p n = true → m ≤ n → allP p m = true
  | 0, m, h, hm => by
    have : m = 0 := by omega
    subst this; rfl
  | n + 1, m, h, hm => by
    rw [allP, Bool.and_eq_true] at h
    by_cases e : m = n + 1
    · subst e; rw [allP, Bool.and_eq_true]; exact h
    · exact allP_le h.1 (by omega)
theorem allP_at {p : Nat → Bool} {n m : Nat} (h : allP p n = true) (hm : m < n) : p m = true := by
  have := allP_le h (show m + 1 ≤ n by omega)
  rw [allP, Bool.and_eq_true] at this
  exact this.2
theorem allP_succ {p : Nat → Bool} {n : Nat} (h : allP p n = true) (h2 : p n = true) : allP p (n + 1) = true := by rw [allP, h, h2]; rfl
theorem outN_iff {n : Int} : (outN n = true) = (0 ≤ n ∧ n ≤ 1099511627776) := by unfold outN; exact propext ⟨of_decide_eq_true, fun h => decide_eq_true h⟩
theorem stampN_iff {a b : Int} : (stampN a b = true) = (1 ≤ a ∧ a ≤ 1099511627776 ∧ 1 ≤ b ∧ b ≤ 1099511627776) := by unfold stampN; exact propext ⟨of_decide_eq_true, fun h => decide_eq_true h⟩
theorem inN_iff {a b : Int} : (inN a b = true) = ((a = 0 ∧ b = 0) ∨ (1 ≤ a ∧ a ≤ 1099511627776 ∧ 1 ≤ b ∧ b ≤ 1099511627776)) := by unfold inN; rw [Bool.or_eq_true, stampN_iff]; exact propext ⟨fun h => h.imp of_decide_eq_true id, fun h => h.imp (fun h => decide_eq_true h) id⟩
theorem fStamp_den {ρ : Rho} (h : ρ.z.F = Φ) (a b : IE) : (fStamp a b).den ρ = stampN (a.den ρ) (b.den ρ) := by
  show ρ.z.F.b 4 [.int .i64 (a.den ρ), .int .i64 (b.den ρ)] = _
  rw [h]; rfl
theorem fIn_den {ρ : Rho} (h : ρ.z.F = Φ) (a b : IE) : (fIn a b).den ρ = inN (a.den ρ) (b.den ρ) := by
  show ρ.z.F.b 5 [.int .i64 (a.den ρ), .int .i64 (b.den ρ)] = _
  rw [h]; rfl
theorem fOut_den {ρ : Rho} (h : ρ.z.F = Φ) (a : IE) : (fOut a).den ρ = outN (a.den ρ) := by
  show ρ.z.F.b 6 [.int .i64 (a.den ρ)] = _
  rw [h]; rfl
theorem one_told {F : Fns} {c : Ctr} (h : Sx.Told F c) : ∀ d ∈ [c], Sx.Told F d := all_cons h all_nil
theorem told_stamp : Sx.Told Φ cStamp := by
  refine told_vw (cs := []) all_nil 4000 vwStamp (by kernel_rfl) (by kernel_rfl) (by kernel_rfl) (post_nil rfl) (by kernel_rfl) (by kernel_rfl) ?_
  repeat' first
    | exact all_nil
    | refine all_cons ?_ ?_
  all_goals
    intro ρ kn hp
    have f4 := fStamp_den kn.F (xv 1) (xv 2)
    simp only [fStamp, xv, IE.den] at f4
    simp only [h_nil, h_cons, d_le, d_eq, d_not, d_var, d_lit, IE.den, LE.den, lenV, true_and, and_true] at hp
    refine all_cons ?_ all_nil
    refine (fStamp_den kn.F (xv 1) (xv 2)).trans (Bool.eq_iff_iff.2 ?_)
    simp only [stampN_iff, inN_iff, outN_iff, f4, d_le, d_eq, d_lit, d_var, IE.den, xv, Bool.false_eq_true, iff_false, iff_true]
    omega
theorem told_refStamp : Sx.Told Φ cRefStamp := by
  refine told_vw (cs := []) all_nil 4000 vwRefStamp (by kernel_rfl) (by kernel_rfl) (by kernel_rfl) (post_nil rfl) (by kernel_rfl) (by kernel_rfl) ?_
  repeat' first
    | exact all_nil
    | refine all_cons ?_ ?_
  all_goals
    intro ρ kn hp
    have f4 := fStamp_den kn.F (xv 1) (xv 2)
    simp only [fStamp, xv, IE.den] at f4
    simp only [h_nil, h_cons, d_le, d_eq, d_not, d_var, d_lit, IE.den, LE.den, lenV, true_and, and_true] at hp
    refine all_cons ?_ all_nil
    refine (fStamp_den kn.F (xv 1) (xv 2)).trans (Bool.eq_iff_iff.2 ?_)
    simp only [stampN_iff, inN_iff, outN_iff, f4, d_le, d_eq, d_lit, d_var, IE.den, xv, Bool.false_eq_true, iff_false, iff_true]
    omega
theorem told_in : Sx.Told Φ cIn := by
  refine told_vw (cs := [cStamp]) (one_told told_stamp) 4000 vwIn (by kernel_rfl) (by kernel_rfl) (by kernel_rfl) (post_nil rfl) (by kernel_rfl) (by kernel_rfl) ?_
  repeat' first
    | exact all_nil
    | refine all_cons ?_ ?_
  all_goals
    intro ρ kn hp
    have f4 := fStamp_den kn.F (xv 1) (xv 2)
    simp only [fStamp, xv, IE.den] at f4
    simp only [h_nil, h_cons, d_le, d_eq, d_not, d_var, d_lit, IE.den, LE.den, lenV, true_and, and_true] at hp
    refine all_cons ?_ all_nil
    refine (fIn_den kn.F (xv 1) (xv 2)).trans (Bool.eq_iff_iff.2 ?_)
    simp only [stampN_iff, inN_iff, outN_iff, f4, d_le, d_eq, d_lit, d_var, IE.den, xv, Bool.false_eq_true, iff_false, iff_true]
    omega
theorem told_out : Sx.Told Φ cOut := by
  refine told_vw (cs := []) all_nil 4000 vwOut (by kernel_rfl) (by kernel_rfl) (by kernel_rfl) (post_nil rfl) (by kernel_rfl) (by kernel_rfl) ?_
  repeat' first
    | exact all_nil
    | refine all_cons ?_ ?_
  all_goals
    intro ρ kn hp
    have f4 := fStamp_den kn.F (xv 1) (xv 2)
    simp only [fStamp, xv, IE.den] at f4
    simp only [h_nil, h_cons, d_le, d_eq, d_not, d_var, d_lit, IE.den, LE.den, lenV, true_and, and_true] at hp
    refine all_cons ?_ all_nil
    refine (fOut_den kn.F (xv 1)).trans (Bool.eq_iff_iff.2 ?_)
    simp only [stampN_iff, inN_iff, outN_iff, f4, d_le, d_eq, d_lit, d_var, IE.den, xv, Bool.false_eq_true, iff_false, iff_true]
    omega
theorem vcO0 : ∀ v ∈ vwO 0, VC (T Φ cAllO.roms [cOut]) invO ms1 0 (st cAllO) v := by
  refine all_cons ?_ all_nil
  intro ρ kn hi hp
  refine ⟨rfl, ?_⟩
  show (ρ.z.rl 0).length - 0 < (ρ.z.rl 0).length + 1
  omega
theorem vcO1 : ∀ v ∈ vwO 1, VC (T Φ cAllO.roms [cOut]) invO ms1 1 (tAll 88 89) v := by
  refine all_cons ?_ (all_cons ?_ (all_cons ?_ all_nil))
  all_goals
    intro ρ kn hi hp
    have hi' : allO (ρ.z.rl 0) (ρ.i .i64 1001).toNat = true := hi
    simp only [h_nil, h_cons, d_le, d_eq, d_not, d_var, d_lit, IE.den, LE.den, lenV] at hp
    have f := fOut_den kn.F (.cel .i64 (.rom 0) (.var .i64 1001) 0)
    simp only [fIn, fOut, IE.den, LE.den] at f
  · refine all_cons ?_ all_nil
    show ρ.z.F.b 1 [.lst (ρ.z.rl 0)] = true
    rw [kn.F]
    show allO (ρ.z.rl 0) (ρ.z.rl 0).length = true
    rw [show (ρ.z.rl 0).length = (ρ.i .i64 1001).toNat by omega]
    exact hi'
  · refine ⟨?_, ?_⟩
    · show allO (ρ.z.rl 0) (ρ.i .i64 1001 + 1).toNat = true
      rw [show (ρ.i .i64 1001 + 1).toNat = (ρ.i .i64 1001).toNat + 1 by omega]
      refine allP_succ hi' ?_
      show pO _ _ = true
      rw [f] at hp
      simp only [pO, atI]
      rw [show (((ρ.i .i64 1001).toNat : Nat) : Int) = ρ.i .i64 1001 by omega]
      exact hp.1
    · show (ρ.z.rl 0).length - (ρ.i .i64 1001 + 1).toNat < (ρ.z.rl 0).length - (ρ.i .i64 1001).toNat
      omega
  · refine all_cons ?_ all_nil
    refine Bool.eq_false_iff.2 fun hh => ?_
    have h3 : ρ.z.F.b 1 [.lst (ρ.z.rl 0)] = true := hh
    rw [kn.F] at h3
    have h4 := allP_at (m := (ρ.i .i64 1001).toNat) (show allP (pO (ρ.z.rl 0)) (ρ.z.rl 0).length = true from h3) (by omega)
    simp only [pO, atI] at h4
    rw [show (((ρ.i .i64 1001).toNat : Nat) : Int) = ρ.i .i64 1001 by omega] at h4
    rw [f] at hp
    exact hp.1 h4
theorem okO0 : cfgOk (st cAllO) = true := by kernel_rfl
theorem sgO0 : segL cAllO.roms cAllO (seg (T Φ cAllO.roms [cOut]) selO 4000 tmO (st cAllO)) = (true, codesR tmO (views (seg (T Φ cAllO.roms [cOut]) selO 4000 tmO (st cAllO))), vwO 0) := by kernel_rfl
theorem okO1 : cfgOk (tAll 88 89) = true := by kernel_rfl
theorem sgO1 : segL cAllO.roms cAllO (seg (T Φ cAllO.roms [cOut]) selO 4000 tmO (tAll 88 89)) = (true, codesR tmO (views (seg (T Φ cAllO.roms [cOut]) selO 4000 tmO (tAll 88 89))), vwO 1) := by kernel_rfl
theorem told_allO : Sx.Told Φ cAllO := by
  refine told_of (cs := [cOut]) (one_told told_out) (sel := selO) 4000 tmO invO ms1 vwO 0 (pc0 := [.lit true]) (by kernel_rfl) (by kernel_rfl) (by kernel_rfl) (post_nil rfl) ?_ ?_ ?_ rfl (fun ρ _ _ => by simp [Holds, BE.den]) (fun _ _ _ _ => trivial)
  · intro k C h
    have := lk_mem h
    simp only [tmO, List.mem_cons, Prod.mk.injEq, List.not_mem_nil, or_false] at this
    rcases this with ⟨rfl, rfl⟩ | ⟨rfl, rfl⟩
    · exact okO0
    · exact okO1
  · intro k C h
    have := lk_mem h
    simp only [tmO, List.mem_cons, Prod.mk.injEq, List.not_mem_nil, or_false] at this
    rcases this with ⟨rfl, rfl⟩ | ⟨rfl, rfl⟩
    · exact sgO0
    · exact sgO1
  · intro k C h
    have := lk_mem h
    simp only [tmO, List.mem_cons, Prod.mk.injEq, List.not_mem_nil, or_false] at this
    rcases this with ⟨rfl, rfl⟩ | ⟨rfl, rfl⟩
    · exact vcO0
    · exact vcO1
theorem vcI0 : ∀ v ∈ vwI 0, VC (T Φ cAllI.roms [cIn]) invI ms1 0 (st cAllI) v := by
  refine all_cons ?_ all_nil
  intro ρ kn hi hp
  refine ⟨rfl, ?_⟩
  show (ρ.z.rl 0).length - 0 < (ρ.z.rl 0).length + 1
  omega
theorem vcI1 : ∀ v ∈ vwI 1, VC (T Φ cAllI.roms [cIn]) invI ms1 1 (tAll 91 92) v := by
  refine all_cons ?_ (all_cons ?_ (all_cons ?_ all_nil))
  all_goals
    intro ρ kn hi hp
    have hi' : allI (ρ.z.rl 0) (ρ.i .i64 1001).toNat = true := hi
    simp only [h_nil, h_cons, d_le, d_eq, d_not, d_var, d_lit, IE.den, LE.den, lenV] at hp
    have f := fIn_den kn.F (.cel .i64 (.rom 0) (.var .i64 1001) 0) (.cel .i64 (.rom 0) (.var .i64 1001) 1)
    simp only [fIn, fOut, IE.den, LE.den] at f
  · refine all_cons ?_ all_nil
    show ρ.z.F.b 2 [.lst (ρ.z.rl 0)] = true
    rw [kn.F]
    show allI (ρ.z.rl 0) (ρ.z.rl 0).length = true
    rw [show (ρ.z.rl 0).length = (ρ.i .i64 1001).toNat by omega]
    exact hi'
  · refine ⟨?_, ?_⟩
    · show allI (ρ.z.rl 0) (ρ.i .i64 1001 + 1).toNat = true
      rw [show (ρ.i .i64 1001 + 1).toNat = (ρ.i .i64 1001).toNat + 1 by omega]
      refine allP_succ hi' ?_
      show pI _ _ = true
      rw [f] at hp
      simp only [pI, atI]
      rw [show (((ρ.i .i64 1001).toNat : Nat) : Int) = ρ.i .i64 1001 by omega]
      exact hp.1
    · show (ρ.z.rl 0).length - (ρ.i .i64 1001 + 1).toNat < (ρ.z.rl 0).length - (ρ.i .i64 1001).toNat
      omega
  · refine all_cons ?_ all_nil
    refine Bool.eq_false_iff.2 fun hh => ?_
    have h3 : ρ.z.F.b 2 [.lst (ρ.z.rl 0)] = true := hh
    rw [kn.F] at h3
    have h4 := allP_at (m := (ρ.i .i64 1001).toNat) (show allP (pI (ρ.z.rl 0)) (ρ.z.rl 0).length = true from h3) (by omega)
    simp only [pI, atI] at h4
    rw [show (((ρ.i .i64 1001).toNat : Nat) : Int) = ρ.i .i64 1001 by omega] at h4
    rw [f] at hp
    exact hp.1 h4
theorem okI0 : cfgOk (st cAllI) = true := by kernel_rfl
theorem sgI0 : segL cAllI.roms cAllI (seg (T Φ cAllI.roms [cIn]) selI 4000 tmI (st cAllI)) = (true, codesR tmI (views (seg (T Φ cAllI.roms [cIn]) selI 4000 tmI (st cAllI))), vwI 0) := by kernel_rfl
theorem okI1 : cfgOk (tAll 91 92) = true := by kernel_rfl
theorem sgI1 : segL cAllI.roms cAllI (seg (T Φ cAllI.roms [cIn]) selI 4000 tmI (tAll 91 92)) = (true, codesR tmI (views (seg (T Φ cAllI.roms [cIn]) selI 4000 tmI (tAll 91 92))), vwI 1) := by kernel_rfl
theorem told_allI : Sx.Told Φ cAllI := by
  refine told_of (cs := [cIn]) (one_told told_in) (sel := selI) 4000 tmI invI ms1 vwI 0 (pc0 := [.lit true]) (by kernel_rfl) (by kernel_rfl) (by kernel_rfl) (post_nil rfl) ?_ ?_ ?_ rfl (fun ρ _ _ => by simp [Holds, BE.den]) (fun _ _ _ _ => trivial)
  · intro k C h
    have := lk_mem h
    simp only [tmI, List.mem_cons, Prod.mk.injEq, List.not_mem_nil, or_false] at this
    rcases this with ⟨rfl, rfl⟩ | ⟨rfl, rfl⟩
    · exact okI0
    · exact okI1
  · intro k C h
    have := lk_mem h
    simp only [tmI, List.mem_cons, Prod.mk.injEq, List.not_mem_nil, or_false] at this
    rcases this with ⟨rfl, rfl⟩ | ⟨rfl, rfl⟩
    · exact sgI0
    · exact sgI1
  · intro k C h
    have := lk_mem h
    simp only [tmI, List.mem_cons, Prod.mk.injEq, List.not_mem_nil, or_false] at this
    rcases this with ⟨rfl, rfl⟩ | ⟨rfl, rfl⟩
    · exact vcI0
    · exact vcI1
theorem told_right : Sx.Told Φ cRight := told_auto (cs := [cAllO, cAllI]) (all_cons told_allO (one_told told_allI)) 4000 (by kernel_rfl) (by kernel_rfl) (by kernel_rfl) (post_nil rfl) (by kernel_rfl) (by kernel_rfl)
end Go.Proofs.Ytjgkaimgocnkmaa.link
