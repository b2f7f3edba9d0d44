/- Layer keep: frames of 65,535 and 65,536 bytes, a sum over a row in memory: words. No condition. -/
import Derived.Test.YtllojpnpfhaniaaGreatKy
set_option linter.unusedVariables false
set_option linter.unusedSimpArgs false
set_option linter.deprecated false
namespace Go.Proofs.YtllojpnpfhaniaaGreat.oct
open Go Go.Proofs.YtllojpnpfhaniaaGreat.Sx
noncomputable section
def wv : IE := .var .i64 2
def rowV : LE := .var 7
def sllW : SV := .sll 1000002 1000003 1 (.lit 0) wv (some wv)
def hSum : SHeap := [(1000000, rdr tabE atV), (1000001, .cells [sllW] 22), (1000002, .rowl rowV (.var .i64 3) kB 5 1000003 1)]
def mSum : Mtr := ⟨97, [.ptr 1000000 1, .slice 1000001 0 1 1], hSum, 1001000, [], [.le (.lit 0) wv, .le wv (.var .i64 3), .le wv (.len rowV)], .int .u32 (.fn .u32 20 (.lst (.take rowV wv) .nil)), hSum, 1001000, []⟩
def oneE (n : Int) : LE := .one (.int .u8 (.lit n) .nil)
def fourE : LE := .fn 7 (.lst (.rom 0) .nil)
def frE (a b c : Int) : LE := .cat (oneE a) (.cat (oneE b) (.cat (oneE c) (.cat (.rom 0) fourE)))
def cFr (a b c n : Int) : Ctr := ⟨58, [sl0 0], rB, [.eq (ln 0) (.lit n)], .tup [.sll 0 1 1 (.lit 0) (.lit (n + 7)) none, .int .i64 (.lit 0)], [(0, .rowl (frE a b c) (.lit (n + 7)) kB 5 1 1)], 2, [.eq (.len fourE) (.lit 4)]⟩
def cFr5 : Ctr := cFr 255 255 3 65535
def cFr6 : Ctr := cFr 128 128 4 65536
def cKL (p : SV) (pre : List BE) : Ctr := ⟨4, [p], [], pre, .bool (.lit true), [], 0, []⟩
def atE (n : Int) : List BE := [.le (.lit n) (xv 1), .le (xv 1) (.lit n)]
def cKLm : Ctr := cKL (iv 1) (atE (-1))
def cKLo : Ctr := cKL (iv 1) (atE 0)
def cKLp : Ctr := cKL (iv 1) (atE 1)
def cKLa : Ctr := cKL (iv 1) [.le (xv 1) (.lit (-2))]
def cKLb : Ctr := cKL (iv 1) [.le (.lit 2) (xv 1)]
end
theorem bI_take {L : LV} {n i : Nat} (h : i < n) : bI (L.take n) i = bI L i := by
 unfold bI celV
 simp [List.getElem?_take, h]
theorem crcT_take {L : LV} {n : Nat} : ∀ {k : Nat}, k ≤ n → crcT (L.take n) k = crcT L k
 | 0, _ => rfl
 | k + 1, h => by rw [crcT, crcT, crcT_take (by omega), bI_take (by omega)]
theorem four_len (s : Int) : (fourL s).length = 4 := rfl
theorem four_s (M : LV) : ([[Value.int .u8 (IntKind.wrap .u8 (binI .shr .u32 (sumI M) 24))]] ++ ([[Value.int .u8 (IntKind.wrap .u8 (binI .shr .u32 (sumI M) 16))]] ++ ([[Value.int .u8 (IntKind.wrap .u8 (binI .shr .u32 (sumI M) 8))]] ++ [[Value.int .u8 (IntKind.wrap .u8 (sumI M))]])) : LV) = fourL (sumI M) := by
 have h := sum_rng M
 obtain ⟨a, ha⟩ : ∃ a : Nat, sumI M = (a : Int) := ⟨(sumI M).toNat, by omega⟩
 rw [ha, shr24_32, shr16_32, shr8_32]
 simp only [wrap8, fourL, rowB, List.map, List.cons_append, List.nil_append]
 simp only [Int.natCast_ediv]
 rfl
theorem fr_of {a b c n : Int} (hn : 0 ≤ n) (hn2 : n ≤ 65536) (hnum : numL (clampK .u64 n) = rowB [a, b, c]) : Sx.Told Φ (cFr a b c n) := by
 have hE : ∀ ρ : Rho, ρ.z.F = Φ → Typed byteK (ρ.z.rl 0) → ((ρ.z.rl 0).length : Int) = n → (frE a b c).den ρ = sealL (ρ.z.rl 0) ∧ ((sealL (ρ.z.rl 0)).length : Int) = n + 7 := by
  intro ρ hF hT hl
  have h1 : headL (ρ.z.rl 0) = rowB [a, b, c] ++ ρ.z.rl 0 := by rw [headL, hl, hnum]
  refine ⟨?_, ?_⟩
  ·simp only [frE, oneE, fourE, LE.den, AL.den, hF, pl7, IE.den]
   rw [sealL, h1]
   rfl
  ·rw [seal_len, hl, hnum, show ((rowB [a, b, c]).length : Int) = 3 from rfl]; omega
 refine ⟨⟨⟨by kernel_rfl, by kernel_rfl, by kernel_rfl, by kernel_rfl⟩, ⟨?_, ?_, ?_, ?_⟩, fun ρ w hg hr hp => ?_⟩, fun ρ hF _ => ?_⟩
 ·intro m o hl
  change lk [(0, SObj.rowl (frE a b c) (.lit (n + 7)) kB 5 1 1)] m = some o at hl
  rw [lk_cons] at hl
  split at hl
  ·rename_i e; subst e; cases hl
   refine ⟨Nat.zero_lt_succ _, fun m hm => ?_⟩
   have : m = 1 := by simpa [SObj.names] using hm
   subst this
   exact Nat.lt_succ_self 1
  ·rw [lk_nil] at hl; cases hl
 ·intro m hm
  have hm : m ∈ (SV.tup [SV.sll 0 1 1 (.lit 0) (.lit (n + 7)) none, .int .i64 (.lit 0)]).names := hm
  simp [SV.names, SV.namesL] at hm
  show m < 2
  omega
 ·rfl
 ·intro p hp
  change p ∈ [(0, SObj.rowl (frE a b c) (.lit (n + 7)) kB 5 1 1)] at hp
  simp at hp
  subst hp
  show 0 < 2
  omega
 ·have hTy : Typed byteK (ρ.z.rl 0) := hr.typed 0 _ _ rfl
  have hl : ((ρ.z.rl 0).length : Int) = n := by
   have hp : Holds ρ [_] := hp
   simpa only [h_nil, h_cons, d_eq, IE.den, ln, LE.den, lenV, and_true] using hp
  have hpre : Holds ρ cSeal.pre := by
   show Holds ρ [_]
   simp only [h_nil, h_cons, d_le, IE.den, ln, LE.den, lenV, and_true]
   omega
  refine (told_seal.ok.call ρ w hg hr hpre).mono ?_
  rintro e w' ⟨ρ', ag, he, H⟩
  have hH : HeapR ρ' w [(0, rowSe)] w' := H
  obtain ⟨obj, ho, rest, lo, hi, rfl, hfz, hcap, hmx, hpos, hks, hty, htot⟩ := hH.at_ 0 rowSe (by rw [lk_cons]; simp)
  have hz : ρ'.z = ρ.z := ag.z
  have hS : sealE.den ρ' = sealL (ρ.z.rl 0) := by
   have e : sealE.den ρ' = Φ.l 3 [.lst (ρ.z.rl 0)] := by
    simp only [sealE, rdA, LE.den, AL.den, ag.z, hg.F]
   rw [e, pl3t hTy]
  obtain ⟨hA, hB⟩ := hE ρ' (by rw [hz]; exact hg.F) (by rw [hz]; exact hTy) (by rw [hz]; exact hl)
  rw [hz] at hA hB
  have hSE : sealE.den ρ' = (frE a b c).den ρ' := by rw [hS, hA]
  have hk2 : (((frE a b c).den ρ').length : Int) = n + 7 := by rw [hA, hB]
  rw [hSE] at ho hfz hcap hty
  refine ⟨ρ', ag, ?_, ?_⟩
  ·rw [he]
   show Ending.returned (SV.den ρ' (.tup [resSe, .int .i64 (.lit 0)])) = Ending.returned (SV.den ρ' (.tup [.sll 0 1 1 (.lit 0) (.lit (n + 7)) none, .int .i64 (.lit 0)]))
   simp only [SV.den, SV.denL, resSe, capDen, IE.den, lenV, hSE, hk2]
  ·refine ⟨hH.g0, fun m o hh => ?_, fun m o hh => ?_, fun m m2 o p hh hh2 _ => ?_⟩
   ·change lk [(0, SObj.rowl (frE a b c) (.lit (n + 7)) kB 5 1 1)] m = some o at hh
    rw [lk_cons] at hh
    split at hh
    ·rename_i e; subst e; cases hh
     exact ⟨_, ho, rest, lo, hi, rfl, hfz, hcap, hmx, hpos, hks, hty, by rw [hk2]; rfl⟩
    ·rw [lk_nil] at hh; cases hh
   ·change lk [(0, SObj.rowl (frE a b c) (.lit (n + 7)) kB 5 1 1)] m = some o at hh
    rw [lk_cons] at hh
    split at hh
    ·rename_i e; subst e
     exact hH.own 0 rowSe (by rw [lk_cons]; simp)
    ·rw [lk_nil] at hh; cases hh
   ·change lk [(0, SObj.rowl (frE a b c) (.lit (n + 7)) kB 5 1 1)] m = some o at hh
    change lk [(0, SObj.rowl (frE a b c) (.lit (n + 7)) kB 5 1 1)] m2 = some p at hh2
    rw [lk_cons] at hh hh2
    split at hh
    ·split at hh2
     ·rename_i a b; exact a.symm.trans b
     ·rw [lk_nil] at hh2; cases hh2
    ·rw [lk_nil] at hh; cases hh
 ·show Holds ρ [_]
  simp only [h_nil, h_cons, d_eq, IE.den, fourE, LE.den, AL.den, lenV, hF, pl7, four_len, and_true]
  rfl
theorem fr_sum {a b c s n : Int} {R : LV} {k : Int} (hnum : numL (clampK .u64 n) = rowB [a, b, c]) (hl : (R.length : Int) = n) (hk : k = n + 3) : sumI (List.take k.toNat ([[Value.int .u8 a]] ++ ([[Value.int .u8 b]] ++ ([[Value.int .u8 c]] ++ (R ++ fourL s))))) = sumI (headL R) := by
 have e : ([[Value.int .u8 a]] ++ ([[Value.int .u8 b]] ++ ([[Value.int .u8 c]] ++ (R ++ fourL s))) : LV) = (rowB [a, b, c] ++ R) ++ fourL s := by
  simp only [rowB, List.map, List.append_assoc, List.cons_append, List.nil_append]
 have h : headL R = rowB [a, b, c] ++ R := by rw [headL, hl, hnum]
 rw [e, h, List.take_left' (by simp only [List.length_append]; have : (rowB [a, b, c]).length = 3 := rfl; omega)]
theorem fr_drop {a b c s n : Int} {R : LV} {k : Int} (hl : (R.length : Int) = n) (hk : k = n + 3) : List.drop k.toNat ([[Value.int .u8 a]] ++ ([[Value.int .u8 b]] ++ ([[Value.int .u8 c]] ++ (R ++ fourL s)))) = fourL s := by
 have e : ([[Value.int .u8 a]] ++ ([[Value.int .u8 b]] ++ ([[Value.int .u8 c]] ++ (R ++ fourL s))) : LV) = (rowB [a, b, c] ++ R) ++ fourL s := by
  simp only [rowB, List.map, List.append_assoc, List.cons_append, List.nil_append]
 rw [e, List.drop_left' (by simp only [List.length_append]; have : (rowB [a, b, c]).length = 3 := rfl; omega)]
theorem nil_sum : sumI (List.take (1 : Int).toNat ([[Value.int .u8 0]] ++ ([[Value.int .u8 210]] ++ ([[Value.int .u8 2]] ++ ([[Value.int .u8 239]] ++ [[Value.int .u8 141]]))))) = 3523407757 := by rfl
theorem rep_len {n : Int} {v : List Value} (h : 0 ≤ n) : ((List.replicate n.toNat v).length : Int) = n := by rw [List.length_replicate]; omega
theorem told_fr5 : Sx.Told Φ cFr5 := fr_of (by omega) (by omega) rfl
theorem told_fr6 : Sx.Told Φ cFr6 := fr_of (by omega) (by omega) rfl
end Go.Proofs.YtllojpnpfhaniaaGreat.oct
