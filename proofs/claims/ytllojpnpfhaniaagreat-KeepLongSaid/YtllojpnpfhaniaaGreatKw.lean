/- Layer keep: words. No condition. -/
import Derived.Test.YtllojpnpfhaniaaGreatJg
import Derived.Test.YtllojpnpfhaniaaGreatQs
import Derived.Test.YtllojpnpfhaniaaGreatJn
set_option linter.unusedVariables false
set_option linter.unusedSimpArgs false
set_option linter.deprecated false
namespace Go.Proofs.YtllojpnpfhaniaaGreat.oct
open Go Go.Proofs.YtllojpnpfhaniaaGreat.Sx
noncomputable section
def bytE (j : Int) : IE := .cel .u8 (.rom 0) (.lit j) 0
def resK (k : Nat) : SV := .tup [.sll 0 1 1 (.lit 0) (.lit k) none, .int .i64 (.lit 0)]
def eAB : LE := (.cat (.one (.int .u8 (.lit 2) .nil)) (.cat (.one (.int .u8 (.lit 97) .nil)) (.cat (.one (.int .u8 (.lit 98) .nil)) (.cat (.one (.int .u8 (.lit 35) .nil)) (.cat (.one (.int .u8 (.lit 159) .nil)) (.cat (.one (.int .u8 (.lit 87) .nil)) (.one (.int .u8 (.lit 238) .nil))))))))
def cSealAB : Ctr := ⟨58, [sl0 0], rB, [.eq (ln 0) (.lit 2), .eq (bytE 0) (.lit 97), .eq (bytE 1) (.lit 98)], resK 7, [(0, .rowl eAB (.lit 7) kB 5 1 1)], 2, []⟩
def eC : LE := (.cat (.one (.int .u8 (.lit 1) .nil)) (.cat (.one (.int .u8 (.lit 99) .nil)) (.cat (.one (.int .u8 (.lit 140) .nil)) (.cat (.one (.int .u8 (.lit 121) .nil)) (.cat (.one (.int .u8 (.lit 19) .nil)) (.one (.int .u8 (.lit 92) .nil)))))))
def cSealC : Ctr := ⟨58, [sl0 0], rB, [.eq (ln 0) (.lit 1), .eq (bytE 0) (.lit 99)], resK 6, [(0, .rowl eC (.lit 6) kB 5 1 1)], 2, []⟩
def eXYZ : LE := (.cat (.one (.int .u8 (.lit 3) .nil)) (.cat (.one (.int .u8 (.lit 120) .nil)) (.cat (.one (.int .u8 (.lit 121) .nil)) (.cat (.one (.int .u8 (.lit 122) .nil)) (.cat (.one (.int .u8 (.lit 39) .nil)) (.cat (.one (.int .u8 (.lit 62) .nil)) (.cat (.one (.int .u8 (.lit 19) .nil)) (.one (.int .u8 (.lit 135) .nil)))))))))
def cSealXYZ : Ctr := ⟨58, [sl0 0], rB, [.eq (ln 0) (.lit 3), .eq (bytE 0) (.lit 120), .eq (bytE 1) (.lit 121), .eq (bytE 2) (.lit 122)], resK 8, [(0, .rowl eXYZ (.lit 8) kB 5 1 1)], 2, []⟩
def eN : LE := (.cat (.one (.int .u8 (.lit 0) .nil)) (.cat (.one (.int .u8 (.lit 210) .nil)) (.cat (.one (.int .u8 (.lit 2) .nil)) (.cat (.one (.int .u8 (.lit 239) .nil)) (.one (.int .u8 (.lit 141) .nil))))))
def cSealN : Ctr := ⟨58, [nilS], [], [], resK 5, [(0, .rowl eN (.lit 5) kB 5 1 1)], 2, []⟩
def cWorksK : Ctr := ⟨5, [], [], [], .bool (.lit true), [], 0, []⟩
def cKNone : Ctr := ⟨3, [iv 1, sl0 0], rB, [.le (.lit 1) (ln 0)], .bool (.lit true), [], 0, []⟩
def cKNone0 : Ctr := ⟨3, [iv 1, sl00], rB, [], .bool (.lit true), [], 0, []⟩
def cKLong : Ctr := ⟨4, [iv 1], [], [], .bool (.lit true), [], 0, []⟩
end
theorem lit_of {cb c : Ctr} {E0 E : LE} {M : LV} {k : Nat} (hb : Sx.Told Φ cb) (h1 : cb.f = c.f) (h2 : cb.pat = c.pat) (h3 : cb.roms = c.roms) (h4 : cb.heap = [(0, .rowl E0 (.len E0) kB 5 1 1)]) (h5 : cb.res = .tup [.sll 0 1 1 (.lit 0) (.len E0) none, .int .i64 (.lit 0)]) (h6 : cb.cnt = 2)
  (hpat : SV.namesL c.pat = []) (hheap : c.heap = [(0, .rowl E (.lit k) kB 5 1 1)]) (hcnt : c.cnt = 2) (hres : c.res = resK k) (hpost : c.post = []) (hflat : c.res.flat2 = true ∧ flatH c.heap = true ∧ freeL c.post = true ∧ freeL c.pre = true)
  (hk : M.length = k) (hE : ∀ ρ, E.den ρ = M) (hpre : ∀ ρ, (∀ r esz ks, lk c.roms r = some (esz, ks) → Typed ks (ρ.z.rl r)) → Holds ρ c.pre → Holds ρ cb.pre ∧ ∀ ρ', ρ'.z = ρ.z → ρ.z.F = Φ → E0.den ρ' = M) : Sx.Told Φ c := by
 refine ⟨⟨hflat, ⟨?_, ?_, hpat, ?_⟩, fun ρ w hg hr hp => ?_⟩, post_nil hpost⟩
 ·rw [hheap, hcnt]
  intro n o hl
  rw [lk_cons] at hl
  split at hl
  ·rename_i e; subst e; cases hl
   exact ⟨by omega, fun m hm => by simp [SObj.names] at hm; omega⟩
  ·rw [lk_nil] at hl; cases hl
 ·rw [hres, hcnt]
  intro n hn
  simp [resK, SV.names, SV.namesL] at hn
  omega
 ·rw [hheap, hcnt]
  intro p hp
  simp at hp
  subst hp
  show 0 < 2
  omega
 ·obtain ⟨hp2, hS0⟩ := hpre ρ (fun r esz ks hh => hr.typed r esz ks hh) hp
  rw [← h1, ← h2]
  refine (hb.ok.call ρ w hg (by rw [h3]; exact hr) hp2).mono ?_
  rintro e w' ⟨ρ', ag, he, H⟩
  rw [h4] at H
  have hH : HeapR ρ' w [(0, .rowl E0 (.len E0) kB 5 1 1)] w' := H
  obtain ⟨obj, ho, rest, lo, hi, rfl, hfz, hcap, hmx, hpos, hks, hty, htot⟩ := hH.at_ 0 (.rowl E0 (.len E0) kB 5 1 1) (by rw [lk_cons]; simp)
  have hS : E0.den ρ' = M := hS0 ρ' ag.z hg.F
  have hSE : E0.den ρ' = E.den ρ' := by rw [hS, hE]
  have hk2 : (E.den ρ').length = k := by rw [hE, hk]
  rw [hSE] at ho hfz hcap hty
  refine ⟨ρ', by rw [hcnt, ← h6]; exact ag, ?_, ?_⟩
  ·rw [he, hres, h5]
   show Ending.returned (SV.den ρ' (.tup [.sll 0 1 1 (.lit 0) (.len E0) none, .int .i64 (.lit 0)])) = Ending.returned (SV.den ρ' (.tup [.sll 0 1 1 (.lit 0) (.lit k) none, .int .i64 (.lit 0)]))
   simp only [SV.den, SV.denL, capDen, IE.den, lenV, hS, hk]
  ·rw [hheap]
   refine ⟨hH.g0, fun n o hh => ?_, fun n o hh => ?_, fun n m o p hh hh2 _ => ?_⟩
   ·rw [lk_cons] at hh
    split at hh
    ·rename_i e; subst e; cases hh
     exact ⟨_, ho, rest, lo, hi, rfl, hfz, hcap, hmx, hpos, hks, hty, by rw [hk2]; rfl⟩
    ·rw [lk_nil] at hh; cases hh
   ·rw [lk_cons] at hh
    split at hh
    ·rename_i e; subst e
     exact hH.own 0 (.rowl E0 (.len E0) kB 5 1 1) (by rw [lk_cons]; simp)
    ·rw [lk_nil] at hh; cases hh
   ·rw [lk_cons] at hh hh2
    split at hh
    ·split at hh2
     ·rename_i a b; exact a.symm.trans b
     ·rw [lk_nil] at hh2; cases hh2
    ·rw [lk_nil] at hh; cases hh
theorem byte_at {L : LV} {n : Int} {i : Nat} (h0 : L[i]? = some [.int .u8 n]) (hn : 0 ≤ n ∧ n ≤ 255) : clampK .u8 (intV (celV L (i : Int) 0)) = n := by
 have e : L.getD ((i : Nat) : Int).toNat [] = [.int .u8 n] := by rw [List.getD_eq_getElem?_getD, Int.toNat_natCast, h0]; rfl
 have e2 : celV L (i : Int) 0 = .int .u8 n := by unfold celV; rw [e]; rfl
 rw [e2]
 exact clamp_id (k := .u8) ⟨hn.1, hn.2⟩
theorem bytes_are {L : LV} (hT : Typed byteK L) (l : List Int) (hl : L.length = l.length) (h : ∀ i, i < l.length → clampK .u8 (intV (celV L (i : Int) 0)) = l.getD i 0) : L = l.map fun b => [.int .u8 b] := by
 apply List.ext_getElem?
 intro i
 rw [List.getElem?_map]
 by_cases hi : i < L.length
 ·have hm := List.getElem?_eq_getElem hi
  obtain ⟨n, hn, hr⟩ := conf_byte_inv (hT _ (List.getElem_mem hi))
  rw [hn] at hm
  have h2 := h i (by omega)
  rw [byte_at hm hr] at h2
  have hi2 : i < l.length := by omega
  rw [hm, List.getElem?_eq_getElem hi2, Option.map_some, h2, List.getD_eq_getElem?_getD, List.getElem?_eq_getElem hi2]
  rfl
 ·rw [List.getElem?_eq_none (by omega), List.getElem?_eq_none (by omega)]
  rfl
theorem nil_fr : sealL [] = [[.int .u8 0], [.int .u8 210], [.int .u8 2], [.int .u8 239], [.int .u8 141]] := by rfl
theorem told_sealN : Sx.Told Φ cSealN := lit_of (k := 5) (E0 := sealN) (E := eN) (M := [[.int .u8 0], [.int .u8 210], [.int .u8 2], [.int .u8 239], [.int .u8 141]]) told_sealnil rfl rfl rfl rfl rfl rfl rfl rfl rfl rfl rfl ⟨by kernel_rfl, by kernel_rfl, by kernel_rfl, by kernel_rfl⟩ rfl (fun ρ => rfl)
 (fun ρ _ _ => by
  refine ⟨?_, fun ρ' hz hF => ?_⟩
  ·intro p hp
   cases hp
  ·simp only [sealN, LE.den, AL.den, hz, hF]
   rw [pl3t typed_nil, nil_fr])
theorem frAB : sealL [[.int .u8 97], [.int .u8 98]] = [[.int .u8 2], [.int .u8 97], [.int .u8 98], [.int .u8 35], [.int .u8 159], [.int .u8 87], [.int .u8 238]] := by rfl
theorem told_sealAB : Sx.Told Φ cSealAB := lit_of (k := 7) (E0 := sealE) (E := eAB) (M := [[.int .u8 2], [.int .u8 97], [.int .u8 98], [.int .u8 35], [.int .u8 159], [.int .u8 87], [.int .u8 238]]) told_seal rfl rfl rfl rfl rfl rfl rfl rfl rfl rfl rfl ⟨by kernel_rfl, by kernel_rfl, by kernel_rfl, by kernel_rfl⟩ rfl (fun ρ => rfl)
 (fun ρ hT hp => by
  have hp : Holds ρ [_, _, _] := hp
  simp only [h_nil, h_cons, d_eq, IE.den, ln, bytE, LE.den, lenV, and_true] at hp
  obtain ⟨hl, h0, h1⟩ := hp
  have hTy : Typed byteK (ρ.z.rl 0) := hT 0 _ _ rfl
  have e : ρ.z.rl 0 = [[.int .u8 97], [.int .u8 98]] := bytes_are hTy [97, 98] (by simp; omega) (fun i hi => by
   have hi : i < 2 := hi
   match i, hi with
   | 0, _ => exact h0
   | 1, _ => exact h1)
  refine ⟨?_, fun ρ' hz hF => ?_⟩
  ·show Holds ρ [_]
   simp only [h_nil, h_cons, d_le, IE.den, ln, LE.den, lenV, and_true]
   omega
  ·simp only [sealE, rdA, LE.den, AL.den, hz, hF]
   rw [pl3t hTy, e, frAB])
theorem frC : sealL [[.int .u8 99]] = [[.int .u8 1], [.int .u8 99], [.int .u8 140], [.int .u8 121], [.int .u8 19], [.int .u8 92]] := by rfl
theorem told_sealC : Sx.Told Φ cSealC := lit_of (k := 6) (E0 := sealE) (E := eC) (M := [[.int .u8 1], [.int .u8 99], [.int .u8 140], [.int .u8 121], [.int .u8 19], [.int .u8 92]]) told_seal rfl rfl rfl rfl rfl rfl rfl rfl rfl rfl rfl ⟨by kernel_rfl, by kernel_rfl, by kernel_rfl, by kernel_rfl⟩ rfl (fun ρ => rfl)
 (fun ρ hT hp => by
  have hp : Holds ρ [_, _] := hp
  simp only [h_nil, h_cons, d_eq, IE.den, ln, bytE, LE.den, lenV, and_true] at hp
  obtain ⟨hl, h0⟩ := hp
  have hTy : Typed byteK (ρ.z.rl 0) := hT 0 _ _ rfl
  have e : ρ.z.rl 0 = [[.int .u8 99]] := bytes_are hTy [99] (by simp; omega) (fun i hi => by
   have hi : i < 1 := hi
   match i, hi with
   | 0, _ => exact h0)
  refine ⟨?_, fun ρ' hz hF => ?_⟩
  ·show Holds ρ [_]
   simp only [h_nil, h_cons, d_le, IE.den, ln, LE.den, lenV, and_true]
   omega
  ·simp only [sealE, rdA, LE.den, AL.den, hz, hF]
   rw [pl3t hTy, e, frC])
theorem frXYZ : sealL [[.int .u8 120], [.int .u8 121], [.int .u8 122]] = [[.int .u8 3], [.int .u8 120], [.int .u8 121], [.int .u8 122], [.int .u8 39], [.int .u8 62], [.int .u8 19], [.int .u8 135]] := by rfl
theorem told_sealXYZ : Sx.Told Φ cSealXYZ := lit_of (k := 8) (E0 := sealE) (E := eXYZ) (M := [[.int .u8 3], [.int .u8 120], [.int .u8 121], [.int .u8 122], [.int .u8 39], [.int .u8 62], [.int .u8 19], [.int .u8 135]]) told_seal rfl rfl rfl rfl rfl rfl rfl rfl rfl rfl rfl ⟨by kernel_rfl, by kernel_rfl, by kernel_rfl, by kernel_rfl⟩ rfl (fun ρ => rfl)
 (fun ρ hT hp => by
  have hp : Holds ρ [_, _, _, _] := hp
  simp only [h_nil, h_cons, d_eq, IE.den, ln, bytE, LE.den, lenV, and_true] at hp
  obtain ⟨hl, h0, h1, h2⟩ := hp
  have hTy : Typed byteK (ρ.z.rl 0) := hT 0 _ _ rfl
  have e : ρ.z.rl 0 = [[.int .u8 120], [.int .u8 121], [.int .u8 122]] := bytes_are hTy [120, 121, 122] (by simp; omega) (fun i hi => by
   have hi : i < 3 := hi
   match i, hi with
   | 0, _ => exact h0
   | 1, _ => exact h1
   | 2, _ => exact h2)
  refine ⟨?_, fun ρ' hz hF => ?_⟩
  ·show Holds ρ [_]
   simp only [h_nil, h_cons, d_le, IE.den, ln, LE.den, lenV, and_true]
   omega
  ·simp only [sealE, rdA, LE.den, AL.den, hz, hF]
   rw [pl3t hTy, e, frXYZ])
end Go.Proofs.YtllojpnpfhaniaaGreat.oct
