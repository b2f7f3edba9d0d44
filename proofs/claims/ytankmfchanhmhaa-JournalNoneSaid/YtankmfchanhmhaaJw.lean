/- Layer journal: words. No condition. -/
import Derived.Test.YtankmfchanhmhaaJg
import Derived.Test.YtankmfchanhmhaaQs
set_option linter.unusedVariables false
set_option linter.unusedSimpArgs false
set_option linter.deprecated false
namespace Go.Proofs.Ytankmfchanhmhaa.oct
open Go Go.Proofs.Ytankmfchanhmhaa.Sx
noncomputable section
def bytE (j : Int) : IE := .cel .u8 (.rom 0) (.lit j) 0
def abE : LE := (.cat (.one (.int .u8 (.lit 2) .nil)) (.cat (.one (.int .u8 (.lit 97) .nil)) (.cat (.one (.int .u8 (.lit 98) .nil)) (.cat (.one (.int .u8 (.lit 35) .nil)) (.cat (.one (.int .u8 (.lit 159) .nil)) (.cat (.one (.int .u8 (.lit 87) .nil)) (.one (.int .u8 (.lit 238) .nil))))))))
def cE' : LE := (.cat (.one (.int .u8 (.lit 1) .nil)) (.cat (.one (.int .u8 (.lit 99) .nil)) (.cat (.one (.int .u8 (.lit 140) .nil)) (.cat (.one (.int .u8 (.lit 121) .nil)) (.cat (.one (.int .u8 (.lit 19) .nil)) (.one (.int .u8 (.lit 92) .nil)))))))
def cSealAB : Ctr := ⟨24, [sl0 0], rB, [.eq (ln 0) (.lit 2), .eq (bytE 0) (.lit 97), .eq (bytE 1) (.lit 98)], .tup [.sll 0 1 1 (.lit 0) (.lit 7) none, .int .i64 (.lit 0)], [(0, .rowl abE (.lit 7) kB 5 1 1)], 2, []⟩
def cSealC : Ctr := ⟨24, [sl0 0], rB, [.eq (ln 0) (.lit 1), .eq (bytE 0) (.lit 99)], .tup [.sll 0 1 1 (.lit 0) (.lit 6) none, .int .i64 (.lit 0)], [(0, .rowl cE' (.lit 6) kB 5 1 1)], 2, []⟩
def cWorksJ : Ctr := ⟨5, [], [], [], .bool (.lit true), [], 0, []⟩
def cNone : Ctr := ⟨3, [iv 1, sl0 0], rB, [.le (.lit 1) (ln 0)], .bool (.lit true), [], 0, []⟩
def cNone0 : Ctr := ⟨3, [iv 1, sl00], rB, [], .bool (.lit true), [], 0, []⟩
def cJLong : Ctr := ⟨4, [iv 1], [], [], .bool (.lit true), [], 0, []⟩
end
/-- A frame of bytes that are known. -/
theorem seal_lit {L M : LV} {c : Ctr} {E : LE} {k : Nat} (hf : c.f = 24) (hpat : c.pat = [sl0 0]) (hroms : c.roms = rB) (hheap : c.heap = [(0, .rowl E (.lit k) kB 5 1 1)]) (hcnt : c.cnt = 2) (hres : c.res = .tup [.sll 0 1 1 (.lit 0) (.lit k) none, .int .i64 (.lit 0)]) (hpost : c.post = [])
    (hflat : c.res.flat2 = true ∧ flatH c.heap = true ∧ freeL c.post = true ∧ freeL c.pre = true) 
    (hL : ∀ ρ, Typed byteK (ρ.z.rl 0) → Holds ρ c.pre → ρ.z.rl 0 = L) (hT : Typed byteK L) (hM : sealL L = M) (hk : M.length = k) (hE : ∀ ρ, E.den ρ = M) (hlen : L.length ≤ 65536) : Sx.Told Φ c := by
  refine ⟨⟨hflat, ⟨?_, ?_, ?_, ?_⟩, fun ρ w hg hr hp => ?_⟩, post_nil hpost⟩
  · rw [hheap, hcnt]
    intro n o hl
    rw [lk_cons] at hl
    split at hl
    · rename_i e; subst e; cases hl
      exact ⟨by omega, fun m hm => by simp [SObj.names] at hm; omega⟩
    · rw [lk_nil] at hl; cases hl
  · rw [hres, hcnt]
    intro n hn
    simp [SV.names, SV.namesL] at hn
    omega
  · rw [hpat]; rfl
  · rw [hheap, hcnt]
    intro p hp
    simp at hp
    subst hp
    show 0 < 2
    omega
  · rw [hroms] at hr
    have hTy : Typed byteK (ρ.z.rl 0) := hr.typed 0 _ _ rfl
    have hl := hL ρ hTy hp
    rw [hf, hpat]
    have hpre : Holds ρ cSeal.pre := by
      show Holds ρ [_]
      simp only [h_nil, h_cons, d_le, IE.den, ln, LE.den, lenV, and_true, hl]
      omega
    refine (told_seal.ok.call ρ w hg hr hpre).mono ?_
    rintro e w' ⟨ρ', ag, he, H⟩
    have hH : HeapR ρ' w [(0, rowSe)] w' := H
    obtain ⟨obj, ho, rest, lo, hi, rfl, hfz, hcap, hmx, hpos, hks, hty, htot⟩ := hH.at_ 0 rowSe (by rw [lk_cons]; simp)
    have hS : sealE.den ρ' = M := by
      have e : sealE.den ρ' = Φ.l 3 [.lst (ρ.z.rl 0)] := by
        simp only [sealE, rdA, LE.den, AL.den, ag.z, hg.F]
      rw [e, pl3t hTy, hl, hM]
    have hSE : sealE.den ρ' = E.den ρ' := by rw [hS, hE]
    have hk2 : (E.den ρ').length = k := by rw [hE, hk]
    rw [hSE] at ho hfz hcap hty
    refine ⟨ρ', by rw [hcnt]; exact ag, ?_, ?_⟩
    · rw [he, hres]
      show Ending.returned (SV.den ρ' (.tup [resSe, .int .i64 (.lit 0)])) = _
      simp only [SV.den, SV.denL, resSe, capDen, IE.den, lenV, hS, hk]
    · rw [hheap]
      refine ⟨hH.g0, fun n o hh => ?_, fun n o hh => ?_, fun n m o p hh hh2 _ => ?_⟩
      · rw [lk_cons] at hh
        split at hh
        · rename_i e; subst e; cases hh
          exact ⟨_, ho, rest, lo, hi, rfl, hfz, hcap, hmx, hpos, hks, hty, by rw [hk2]; rfl⟩
        · rw [lk_nil] at hh; cases hh
      · rw [lk_cons] at hh
        split at hh
        · rename_i e; subst e
          exact hH.own 0 rowSe (by rw [lk_cons]; simp)
        · rw [lk_nil] at hh; cases hh
      · rw [lk_cons] at hh hh2
        split at hh
        · split at hh2
          · rename_i a b; exact a.symm.trans b
          · rw [lk_nil] at hh2; cases hh2
        · rw [lk_nil] at hh; cases hh
theorem byte_at {L : LV} {n : Int} {i : Nat} (h0 : L[i]? = some [.int .u8 n]) (hn : 0 ≤ n ∧ n ≤ 255) : clampK .u8 (intV (celV L (i : Int) 0)) = n := by
  have e : L.getD ((i : Nat) : Int).toNat [] = [.int .u8 n] := by rw [List.getD_eq_getElem?_getD, Int.toNat_natCast, h0]; rfl
  have e2 : celV L (i : Int) 0 = .int .u8 n := by unfold celV; rw [e]; rfl
  rw [e2]
  exact clamp_id (k := .u8) ⟨hn.1, hn.2⟩
theorem two_bytes {L : LV} (hT : Typed byteK L) (hl : (L.length : Int) = 2) {a b : Int} (h0 : clampK .u8 (intV (celV L 0 0)) = a) (h1 : clampK .u8 (intV (celV L 1 0)) = b) : L = [[.int .u8 a], [.int .u8 b]] := by
  match L, hl, hT, h0, h1 with
  | [x, y], hl, hT, h0, h1 =>
    obtain ⟨n, rfl, hn⟩ := conf_byte_inv (hT x (by simp))
    obtain ⟨m, rfl, hm⟩ := conf_byte_inv (hT y (by simp))
    have e0 := byte_at (L := [[.int .u8 n], [.int .u8 m]]) (i := 0) rfl hn
    have e1 := byte_at (L := [[.int .u8 n], [.int .u8 m]]) (i := 1) rfl hm
    rw [← h0, ← h1]
    rw [show ((0 : Nat) : Int) = 0 from rfl] at e0
    rw [show ((1 : Nat) : Int) = 1 from rfl] at e1
    rw [e0, e1]
  | [], hl, _, _, _ => simp at hl
  | [_], hl, _, _, _ => simp at hl
  | _ :: _ :: _ :: t, hl, _, _, _ => simp at hl; omega
theorem one_byte {L : LV} (hT : Typed byteK L) (hl : (L.length : Int) = 1) {a : Int} (h0 : clampK .u8 (intV (celV L 0 0)) = a) : L = [[.int .u8 a]] := by
  match L, hl, hT, h0 with
  | [x], hl, hT, h0 =>
    obtain ⟨n, rfl, hn⟩ := conf_byte_inv (hT x (by simp))
    have e0 := byte_at (L := [[.int .u8 n]]) (i := 0) rfl hn
    rw [← h0]
    rw [show ((0 : Nat) : Int) = 0 from rfl] at e0
    rw [e0]
  | [], hl, _, _ => simp at hl
  | _ :: _ :: t, hl, _, _ => simp at hl; omega
def abL : LV := [[.int .u8 97], [.int .u8 98]]
def abM : LV := [[.int .u8 2], [.int .u8 97], [.int .u8 98], [.int .u8 35], [.int .u8 159], [.int .u8 87], [.int .u8 238]]
def cL : LV := [[.int .u8 99]]
def cM : LV := [[.int .u8 1], [.int .u8 99], [.int .u8 140], [.int .u8 121], [.int .u8 19], [.int .u8 92]]
theorem seal_ab : sealL abL = abM := by rfl
theorem seal_c : sealL cL = cM := by rfl
theorem ab_typed : Typed byteK abL := by
  intro e he
  simp only [abL, List.mem_cons, List.not_mem_nil, or_false] at he
  rcases he with rfl | rfl <;> rfl
theorem c_typed : Typed byteK cL := by
  intro e he
  simp only [cL, List.mem_cons, List.not_mem_nil, or_false] at he
  rcases he with rfl <;> rfl
theorem told_sealAB : Sx.Told Φ cSealAB := seal_lit (L := abL) (M := abM) (E := abE) (k := 7) rfl rfl rfl rfl rfl rfl rfl ⟨by kernel_rfl, by kernel_rfl, by kernel_rfl, by kernel_rfl⟩
  (fun ρ hT hp => by
    have hp : Holds ρ [_, _, _] := hp
    simp only [h_nil, h_cons, d_eq, IE.den, ln, bytE, LE.den, lenV, and_true] at hp
    exact two_bytes hT hp.1 hp.2.1 hp.2.2) ab_typed seal_ab rfl (fun ρ => rfl) (by decide)
theorem told_sealC : Sx.Told Φ cSealC := seal_lit (L := cL) (M := cM) (E := cE') (k := 6) rfl rfl rfl rfl rfl rfl rfl ⟨by kernel_rfl, by kernel_rfl, by kernel_rfl, by kernel_rfl⟩
  (fun ρ hT hp => by
    have hp : Holds ρ [_, _] := hp
    simp only [h_nil, h_cons, d_eq, IE.den, ln, bytE, LE.den, lenV, and_true] at hp
    exact one_byte hT hp.1 hp.2) c_typed seal_c rfl (fun ρ => rfl) (by decide)
end Go.Proofs.Ytankmfchanhmhaa.oct
