/- Layer escrow: words. No condition. -/
import Derived.Test.YtdfgidogiacmnaaSw
set_option linter.unusedVariables false
set_option linter.unusedSimpArgs false
set_option linter.deprecated false
namespace Go.Proofs.Ytdfgidogiacmnaa.esc
open Go Go.Proofs.Ytdfgidogiacmnaa.Sx
noncomputable section
def iv (n : Nat) : SV := .int .i64 (.var .i64 n)
def xv (n : Nat) : IE := .var .i64 n
def uv (n : Nat) : SV := .int .u64 (.var .u64 n)
def vv : IE := .var .u64 3
/-- The error of a change: 0, if there is none. -/
def errN (v f ver b : Int) : Int :=
  if ¬ (f ≤ v ∧ ver ≤ 4611686018427387904) ∨ b = 0 then 2
  else if b < 0 then (if v + b < f then 140 else if ver = 4611686018427387904 then 142 else 0)
  else (if 9223372036854775807 < v + b then 141 else if ver = 4611686018427387904 then 142 else 0)
/-- The value behind the first n changes. -/
def sumN (R : LV) (v : Int) : Nat → Int
  | 0 => v
  | n + 1 => sumN R v n + atI R n 0
def errI (R : LV) (v f ver : Int) (n : Nat) : Int := errN (sumN R v n) f (ver + n) (atI R n 0)
def badI (R : LV) (v f ver : Int) (n : Nat) : Bool := !decide (errI R v f ver n = 0)
def stopE (R : LV) (v f ver : Int) : Nat := Sx.firstP (badI R v f ver) R.length
def outE (R : LV) (v f ver : Int) : Nat → LV
  | 0 => []
  | n + 1 => outE R v f ver n ++ [[.int .i64 (sumN R v (n + 1)), .int .i64 f, .int .u64 (ver + ((n + 1 : Nat) : Int))]]
def fi : Nat → List AV → Int
  | 1, [.int _ v, .int _ f, .int _ ver, .int _ b] => errN v f ver b
  | 2, [.lst R, .int _ v, .int _ f, .int _ ver] => stopE R v f ver
  | 3, [.lst R, .int _ v, .int _ f, .int _ ver] => if stopE R v f ver < R.length then errI R v f ver (stopE R v f ver) else 0
  | _, _ => 0
def fb : Nat → List AV → Bool
  | _, _ => false
def fl : Nat → List AV → LV
  | 2, [.lst R, .int _ v, .int _ f, .int _ ver] => outE R v f ver (stopE R v f ver)
  | _, _ => []
def Φ : Fns := ⟨fi, fb, fl, []⟩
def ks1 : List CK := [.int .i64]
def ks3 : List CK := [.int .i64, .int .i64, .int .u64]
def r1 : Roms := [(0, (1, ks1))]
def ln (r : Nat) : IE := .len (.rom r)
def sl0 (r : Nat) : SV := .rom r (.lit 0) (.len (.rom r)) none
def sl00 : SV := .rom 0 (.lit 0) (.lit 0) none
def pC : SV := .agg [iv 1, iv 2, uv 3]
def errE : IE := .fn .i64 1 (.int .i64 (xv 1) (.int .i64 (xv 2) (.int .u64 vv (.int .i64 (xv 4) .nil))))
def cWorks : Ctr := ⟨4, [], [], [], .bool (.lit true), [], 0, []⟩
def zI : SV := .int .i64 (.lit 0)
def mx : BE := .le (xv 1) (.lit 9223372036854775807)
def mn : BE := .le (.lit (-9223372036854775808)) (xv 2)
def cChg : Ctr := ⟨13, [pC, iv 4], [], [mx, mn, .eq errE (.lit 0)], .tup [.agg [.int .i64 (.add (xv 1) (xv 4)), iv 2, .int .u64 (.add vv (.lit 1))], .int .i64 (.lit 0)], [], 0, [.le (.lit (-9223372036854775808)) (.add (xv 1) (xv 4)), .le (xv 2) (.add (xv 1) (xv 4)), .le (.add (xv 1) (xv 4)) (.lit 9223372036854775807), .le vv (.lit 4611686018427387903)]⟩
def cChgN : Ctr := ⟨13, [pC, iv 4], [], [.not (.eq errE (.lit 0))], .tup [.agg [zI, zI, .int .u64 (.lit 0)], .int .i64 errE], [], 0, []⟩
def aR : AL := .lst (.rom 0) (.int .i64 (xv 1) (.int .i64 (xv 2) (.int .u64 vv .nil)))
def STOP : IE := .fn .i64 2 aR
def ERR : IE := .fn .i64 3 aR
def OUT : LE := .fn 2 aR
def rowO : SObj := .rowl OUT (.len OUT) ks3 24 1 3
def fifty : BE := .le (ln 0) (.lit 50)
def E0 : BE := .eq (.fn .i64 1 (.int .i64 (xv 1) (.int .i64 (xv 2) (.int .u64 vv (.int .i64 (.cel .i64 (.rom 0) (.lit 0) 0) .nil))))) (.lit 0)
def cRunS : Ctr := ⟨6, [pC, sl0 0], r1, [fifty, .le (.lit 1) (ln 0), E0], .tup [.sll 0 1 3 (.lit 0) (.len OUT) none, .int .i64 ERR], [(0, rowO)], 2, [.eq (.len OUT) STOP, .le STOP (ln 0), .le (.lit 1) STOP]⟩
def cRunN : Ctr := ⟨6, [pC, sl0 0], r1, [fifty, .le (.lit 1) (ln 0), .not E0], .tup [.const (.slice none 0 0), .int .i64 ERR], [], 0, [.eq STOP (.lit 0)]⟩
def cRunZ : Ctr := ⟨6, [pC, sl0 0], r1, [.not (.le (.lit 1) (ln 0))], .tup [.const (.slice none 0 0), .int .i64 (.lit 0)], [], 0, []⟩
def cEach : Ctr := ⟨3, [pC, sl0 0, iv 4], r1, [.le (.lit 1) (ln 0)], .bool (.lit true), [], 0, []⟩
def cEach0 : Ctr := ⟨3, [pC, sl00, iv 4], r1, [], .bool (.lit true), [], 0, []⟩
end
theorem pi1 (v f ver b : Int) : Φ.i 1 [.int .i64 v, .int .i64 f, .int .u64 ver, .int .i64 b] = errN v f ver b := rfl
theorem pi2 (R : LV) (v f ver : Int) : Φ.i 2 [.lst R, .int .i64 v, .int .i64 f, .int .u64 ver] = (stopE R v f ver : Int) := rfl
theorem pi3 (R : LV) (v f ver : Int) : Φ.i 3 [.lst R, .int .i64 v, .int .i64 f, .int .u64 ver] = (if stopE R v f ver < R.length then errI R v f ver (stopE R v f ver) else 0) := rfl
theorem pl2 (R : LV) (v f ver : Int) : Φ.l 2 [.lst R, .int .i64 v, .int .i64 f, .int .u64 ver] = outE R v f ver (stopE R v f ver) := rfl
theorem odd_ok : OddOk Φ := fun n a h => by
  show Typed byteK (fl n a)
  unfold fl; split
  · cases h
  · exact Typed.nil _
theorem err_cases (v f ver b : Int) : ((¬ (f ≤ v ∧ ver ≤ 4611686018427387904) ∨ b = 0) ∧ errN v f ver b = 2) ∨ ((f ≤ v ∧ ver ≤ 4611686018427387904) ∧ b < 0 ∧ ((v + b < f ∧ errN v f ver b = 140) ∨ (f ≤ v + b ∧ ver = 4611686018427387904 ∧ errN v f ver b = 142) ∨ (f ≤ v + b ∧ ¬ ver = 4611686018427387904 ∧ errN v f ver b = 0))) ∨ ((f ≤ v ∧ ver ≤ 4611686018427387904) ∧ 0 < b ∧ ((9223372036854775807 < v + b ∧ errN v f ver b = 141) ∨ (v + b ≤ 9223372036854775807 ∧ ver = 4611686018427387904 ∧ errN v f ver b = 142) ∨ (v + b ≤ 9223372036854775807 ∧ ¬ ver = 4611686018427387904 ∧ errN v f ver b = 0))) := by
  unfold errN
  split
  · rename_i h; exact .inl ⟨h, rfl⟩
  · rename_i h
    split
    · right; left
      refine ⟨by omega, by assumption, ?_⟩
      split
      · exact .inl ⟨by assumption, rfl⟩
      · split
        · exact .inr (.inl ⟨by omega, by assumption, rfl⟩)
        · exact .inr (.inr ⟨by omega, by assumption, rfl⟩)
    · right; right
      refine ⟨by omega, by omega, ?_⟩
      split
      · exact .inl ⟨by assumption, rfl⟩
      · split
        · exact .inr (.inl ⟨by omega, by assumption, rfl⟩)
        · exact .inr (.inr ⟨by omega, by assumption, rfl⟩)
theorem err_in (v f ver b : Int) : clampK .i64 (errN v f ver b) = errN v f ver b := by
  have := err_cases v f ver b
  exact clampS (by omega) (by omega)
theorem post_chg : PostOk Φ cChg := by
  intro ρ hF hp
  have h0 := hp (.eq errE (.lit 0)) (by simp [cChg])
  simp only [errE, d_eq, IE.den, AL.den, xv, vv, hF, pi1, err_in] at h0
  have h1 := hp mx (by simp [cChg])
  have h2 := hp mn (by simp [cChg])
  simp only [mx, mn, d_le, IE.den, xv] at h1 h2
  have k := err_cases (ρ.i .i64 1) (ρ.i .i64 2) (ρ.i .u64 3) (ρ.i .i64 4)
  show Holds ρ [_, _, _, _]
  simp only [h_nil, h_cons, d_le, IE.den, xv, vv, and_true]
  omega
theorem out_len (R : LV) (v f ver : Int) : ∀ n, (outE R v f ver n).length = n
  | 0 => rfl
  | n + 1 => by simp [outE, out_len R v f ver n]
theorem stop_le (R : LV) (v f ver : Int) : stopE R v f ver ≤ R.length := first_le _ _
theorem e0_iff {ρ : Rho} (hF : ρ.z.F = Φ) : (E0.den ρ = true) ↔ errI (ρ.z.rl 0) (ρ.i .i64 1) (ρ.i .i64 2) (ρ.i .u64 3) 0 = 0 := by
  simp only [E0, d_eq, IE.den, AL.den, LE.den, xv, vv, hF, pi1, err_in]
  show errN (ρ.i .i64 1) (ρ.i .i64 2) (ρ.i .u64 3) (clampK .i64 (intV (celV (ρ.z.rl 0) 0 0))) = 0 ↔ errN _ _ (ρ.i .u64 3 + ((0 : Nat) : Int)) _ = 0
  rw [show ρ.i .u64 3 + ((0 : Nat) : Int) = ρ.i .u64 3 by omega]
  exact Iff.rfl
theorem stop_pos {R : LV} {v f ver : Int} (hl : 1 ≤ R.length) (h : errI R v f ver 0 = 0) : 1 ≤ stopE R v f ver := by
  refine Nat.not_lt.1 fun hh => ?_
  have h1 : stopE R v f ver = 0 := by omega
  have := first_at (p := badI R v f ver) (n := R.length) (by unfold stopE at h1; omega)
  unfold stopE at h1
  rw [h1] at this
  simp [badI, h] at this
theorem stop_nil {R : LV} {v f ver : Int} (hl : 1 ≤ R.length) (h : ¬ errI R v f ver 0 = 0) : stopE R v f ver = 0 :=
  first_yes (i := 0) hl rfl (by simp [badI, h])
theorem post_runS : PostOk Φ cRunS := by
  intro ρ hF hp
  have hm := hp fifty (by simp [cRunS])
  have h1 := hp (.le (.lit 1) (ln 0)) (by simp [cRunS])
  have h0 := (e0_iff hF).1 (hp E0 (by simp [cRunS]))
  simp only [fifty, ln, d_le, IE.den, LE.den, lenV] at hm h1
  have h := stop_le (ρ.z.rl 0) (ρ.i .i64 1) (ρ.i .i64 2) (ρ.i .u64 3)
  have hq := stop_pos (by omega) h0
  show Holds ρ [_, _, _]
  simp only [h_nil, h_cons, d_le, d_eq, IE.den, LE.den, AL.den, OUT, STOP, aR, ln, lenV, xv, vv, hF, pi2, pl2, out_len, and_true]
  rw [clampS (by omega) (by omega)]
  omega
theorem post_runN : PostOk Φ cRunN := by
  intro ρ hF hp
  have h1 := hp (.le (.lit 1) (ln 0)) (by simp [cRunN])
  have h0 := hp (.not E0) (by simp [cRunN])
  simp only [ln, d_le, IE.den, LE.den, lenV] at h1
  rw [d_not, e0_iff hF] at h0
  show Holds ρ [_]
  simp only [h_nil, h_cons, d_eq, IE.den, LE.den, AL.den, STOP, aR, xv, vv, hF, pi2, and_true]
  rw [stop_nil (by omega) h0]; rfl
/-- What is run so far. -/
structure Mid (R : LV) (v f ver x w : Int) (l : LV) (i : Nat) : Prop where
  run : firstP (badI R v f ver) i = i
  val : x = sumN R v i
  vr : w = ver + i
  out : l = outE R v f ver i
theorem err_at {R : LV} {v f ver x w : Int} {l : LV} {i : Int} (h0 : 0 ≤ i) (m : Mid R v f ver x w l i.toNat) : errI R v f ver i.toNat = errN x f w (clampK .i64 (intV (celV R i 0))) := by
  rw [at_z h0, errI, m.val, m.vr]
theorem mid_s {R : LV} {v f ver x w : Int} {l : LV} {i : Int} (h0 : 0 ≤ i) (m : Mid R v f ver x w l i.toNat) (h : errN x f w (clampK .i64 (intV (celV R i 0))) = 0) : Mid R v f ver (x + clampK .i64 (intV (celV R i 0))) (w + 1) (l ++ [[.int .i64 (x + clampK .i64 (intV (celV R i 0))), .int .i64 f, .int .u64 (w + 1)]]) (i + 1).toNat := by
  have e := err_at h0 m
  rw [show (i + 1).toNat = i.toNat + 1 by omega]
  have hb : badI R v f ver i.toNat = false := by simp [badI, e, h]
  refine ⟨first_no m.run hb, ?_, ?_, ?_⟩
  · rw [sumN, m.val, at_z h0]
  · rw [m.vr]; omega
  · rw [outE, m.out, sumN, m.val, at_z h0, m.vr]
    rw [show ver + ((i.toNat : Nat) : Int) + 1 = ver + ((i.toNat + 1 : Nat) : Int) by omega]
theorem mid_stop {R : LV} {v f ver x w : Int} {l : LV} {i : Int} (h0 : 0 ≤ i) (hl : i < (R.length : Int)) (m : Mid R v f ver x w l i.toNat) (h : ¬ errN x f w (clampK .i64 (intV (celV R i 0))) = 0) : stopE R v f ver = i.toNat := by
  have e := err_at h0 m
  exact first_yes (by omega) m.run (by simp [badI, e, h])
theorem mid_end {R : LV} {v f ver x w : Int} {l : LV} {i : Int} (hl : (R.length : Int) ≤ i) (h1 : i ≤ (R.length : Int)) (m : Mid R v f ver x w l i.toNat) : stopE R v f ver = R.length := by
  have := m.run
  rw [show i.toNat = R.length by omega] at this
  exact this
theorem mid_0 (R : LV) (v f ver : Int) : Mid R v f ver v ver [] 0 := ⟨rfl, rfl, by omega, rfl⟩
end Go.Proofs.Ytdfgidogiacmnaa.esc
