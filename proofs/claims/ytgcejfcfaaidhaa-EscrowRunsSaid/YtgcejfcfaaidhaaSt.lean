/- What a run of changes answers, in numbers, and one step of the iterator over it. -/
import Derived.Test.YtgcejfcfaaidhaaCi
import Derived.OwnWalkIn
import Derived.TacticsInMore
import Derived.LoopNIn
import Derived.LoopIn
import Derived.Shelf.RegionOpen
set_option linter.unusedSimpArgs false
set_option linter.unusedVariables false
namespace Go.Proofs.Ytgcejfcfaaidhaa
open Go.RowKit
attribute [local go_sem] Oper.semAt_some

/-- Changes, as far as one is refused: the value, the version, how many were done, the error. -/
def runS (f : Int) : Int → Int → Int → List Int → Int × Int × Int × Int
  | v, n, d, [] => (v, n, d, 0)
  | v, n, d, k :: ks => if chE v f n k = 0 then runS f (v + k) (n + 1) (d + 1) ks else (v, n, d, chE v f n k)

/-- What the iterator wants kept by a round that goes on. -/
def Same (b A S : Nat) (W W' : World) : Prop := ∀ k, k = b ∨ k = A ∨ k = S → W'.heap[k]? = W.heap[k]?

theorem Bd.step {v f n k : Int} (h : Bd v f n) (hk : -9223372036854775808 ≤ k) (hk' : k ≤ 9223372036854775807) (he : chE v f n k = 0) : Bd (v + k) f (n + 1) := by
  unfold chE at he
  rcases moveE_cases (chD k) v f n (chM k) with ⟨h0, _⟩ | ⟨_, e1, e2, e3⟩
  · exact absurd he h0
  · have hr : f ≤ v ∧ n ≤ 4611686018427387904 := by simp at e1; exact rightB_t e1.1
    obtain ⟨h1, h2, h3, h4, h5, h6⟩ := h
    simp at e3
    unfold askB chD chM at e2
    by_cases hn : k < 0
    · simp [hn] at e2
      exact ⟨by omega, by omega, by omega, by omega, by omega, by omega⟩
    · simp [hn] at e2
      exact ⟨by omega, by omega, by omega, by omega, by omega, by omega⟩

/-- The value and the version behind changes that are all done. -/
def preS (f : Int) : Int → Int → List Int → Option (Int × Int)
  | v, n, [] => some (v, n)
  | v, n, k :: ks => if chE v f n k = 0 then preS f (v + k) (n + 1) ks else none
theorem preS_snoc (f : Int) (z : Int) : ∀ (l : List Int) (v0 n0 v n : Int), preS f v0 n0 l = some (v, n) → chE v f n z = 0 → preS f v0 n0 (l ++ [z]) = some (v + z, n + 1)
  | [], v0, n0, v, n, h, hz => by simp [preS] at h; obtain ⟨rfl, rfl⟩ := h; simp [preS, hz]
  | k :: ks, v0, n0, v, n, h, hz => by
    simp only [List.cons_append, preS] at h ⊢
    split at h
    · rename_i he; rw [if_pos he]; exact preS_snoc f z ks _ _ _ _ h hz
    · cases h
theorem take_snoc' (zs : List Int) (k : Nat) (h : k < zs.length) : zs.take (k + 1) = zs.take k ++ [zs.getD k 0] := by
  rw [List.take_succ_eq_append_getElem h]; simp [List.getD, List.getElem?_eq_getElem h]
theorem runS_step (f v n d : Int) (zs : List Int) (k : Nat) (hk : k < zs.length) :
    runS f v n d (zs.drop k) = if chE v f n (zs.getD k 0) = 0 then runS f (v + zs.getD k 0) (n + 1) (d + 1) (zs.drop (k + 1)) else (v, n, d, chE v f n (zs.getD k 0)) := by
  rw [List.drop_eq_getElem_cons hk, show zs.getD k 0 = zs[k] by simp [List.getD, List.getElem?_eq_getElem hk]]
  rfl

theorem Acct.same {w W : World} {b : Nat} {v f n d : Int} (h : Acct w b v f n d) (hs : W.heap[b]? = w.heap[b]?) : Acct W b v f n d :=
  ⟨(World.cell?_of_block hs).trans h.c0, (World.cell?_of_block hs).trans h.c1, (World.cell?_of_block hs).trans h.c2, (World.cell?_of_block hs).trans h.c3, fun o => (World.frozen?_of_block hs).trans (h.z o)⟩

set_option maxRecDepth 100000 in
set_option maxHeartbeats 2000000 in
theorem steps1 (l b L A sb so cap : Nat) (ao : Option Addr) (zs : List Int) (f v0 n0 d0 : Int) (Inv : Nat → World → Prop) (Stop : Nat → Int → Int → Int → World → Prop) (W : World)
    (hI : ∀ i X Y, Inv i X → X.grownBy Y (some b) → Inv i Y)
    (hgo : ∀ i v n X, i < zs.length → preS f v0 n0 (zs.take (i + 1)) = some (v, n) → Inv i X → Acct X b v f n (d0 + i + 1) → YieldAt Fence.wide 0 Try.prog l #[.int .i64 i, .int .i64 0] X fun r Y =>
      (r = .returned (.bool true) ∧ Inv (i + 1) Y ∧ Same b A sb X Y) ∨ (r = .returned (.bool false) ∧ Stop (i + 1) v n 0 Y))
    (hno : ∀ i v n e X, i < zs.length → e ≠ 0 → preS f v0 n0 (zs.take i) = some (v, n) → Inv i X → Acct X b v f n (d0 + i) → YieldAt Fence.wide 0 Try.prog l #[.int .i64 i, .int .i64 e] X fun r Y => r = .returned (.bool false) ∧ Stop i v n e Y)
    (hA : Acct W b v0 f n0 d0) (hB : Bd v0 f n0) (hd0 : 0 ≤ d0) (hd1 : d0 + zs.length < 9223372036854775807)
    (hL : W.cell? ⟨L, 0, none⟩ = some (.slice ao zs.length cap)) (hAc : W.cell? ⟨A, 0, none⟩ = some (.pointer (some ⟨b, 0, none⟩))) (hbA : b ≠ A) (hbs : 0 < zs.length → b ≠ sb)
    (hz : ∀ k, k < zs.length → ao = some ⟨sb, so, none⟩ ∧ W.cell? ⟨sb, so + k, none⟩ = some (.int .i64 (zs.getD k 0)) ∧ -9223372036854775808 ≤ zs.getD k 0 ∧ zs.getD k 0 ≤ 9223372036854775807)
    (hi0 : Inv 0 W) :
    CallsIn Fence.wide 0 Try.prog 42 #[.func (.yield l) #[] #[], .pointer (some ⟨L, 0, none⟩), .pointer (some ⟨A, 0, none⟩)] W fun r Y => (∃ x, r = .returned x) ∧
      ((∃ v n d, runS f v0 n0 d0 zs = (v, n, d, 0) ∧ preS f v0 n0 zs = some (v, n) ∧ Inv zs.length Y ∧ Acct Y b v f n d) ∨ (∃ i v n e, Stop i v n e Y ∧ (e ≠ 0 → runS f v0 n0 d0 zs = (v, n, d0 + i, e)))) := by
  have HI := Lib.hid hI
  have HG := Lib.hid hgo
  have HN := Lib.hid hno
  have HZ := Lib.hid hz
  clear hI hgo hno hz
  refine callsIn_of_wp Try.func42 rfl trivial ?_ rfl
  simp only [Try.ntmps42, List.size_toArray, List.length_cons, List.length_nil, Nat.reduceAdd, Nat.reduceSub, Array.replicate_succ, Array.replicate_zero, List.push_toArray, List.append_toArray, List.nil_append, List.cons_append]
  have hlen : (zs.length : Int) < 9223372036854775807 := by omega
  gi_wp2
  gi_loopw [9] (fun i wr => ∃ (k : Nat) (v n : Int), i = .int .i64 k ∧ k ≤ zs.length ∧ Acct wr b v f n (d0 + k) ∧ Bd v f n ∧ Inv k wr ∧ wr.cell? ⟨A, 0, none⟩ = some (.pointer (some ⟨b, 0, none⟩)) ∧
      (∀ j, j < zs.length → wr.cell? ⟨sb, so + j, none⟩ = some (.int .i64 (zs.getD j 0))) ∧ runS f v0 n0 d0 zs = runS f v n (d0 + k) (zs.drop k) ∧ preS f v0 n0 (zs.take k) = some (v, n))
    (fun i wr => zs.length - (intOf i).toNat)
  case atStart => exact ⟨0, v0, n0, rfl, by omega, by simpa using hA, hB, hi0, hAc, fun j hj => (HZ.out j hj).2.1, by simp, by simp [preS]⟩
  case round =>
    obtain ⟨k, v, n, rfl, hk, hAk, hBk, hi, hAk', hzk, hrun, hpre⟩ := hrel
    have hdk : 0 ≤ d0 + k := by omega
    have HR := Lib.hid hrun
    have HZK := Lib.hid hzk
    have HP := Lib.hid hpre
    clear hrun hzk hpre
    by_cases hlt : k < zs.length
    · have hbs := hbs (by omega)
      obtain ⟨rfl, _, z0, z1⟩ := HZ.out k hlt
      have hc := HZK.out k hlt
      have hst := runS_step f v n (d0 + k) zs k hlt
      have hsn := take_snoc' zs k hlt
      generalize zs.getD k 0 = z at hc z0 z1 hst hsn
      have HST := Lib.hid hst
      have HSN := Lib.hid hsn
      clear hst hsn
      have hcell1 := hAk'
      by_cases hE : chE v f n z = 0
      · gi_wp2_with fail
        refine ⟨trivial, rfl, ?_⟩
        refine (callsIn_wide.2 (change_yes b v f n (d0 + k) z wr hAk hBk z0 z1 hdk (by omega) hE)).mono ?_
        rintro e w1 ⟨rfl, hg, hA1⟩
        have hi1 := HI.out k wr w1 hi hg
        have hB1 := hBk.step z0 z1 hE
        have hpre1 : preS f v0 n0 (zs.take (k + 1)) = some (v + z, n + 1) := by rw [HSN.out]; exact preS_snoc f z _ _ _ _ _ HP.out hE
        have hy := HG.out k (v + z) (n + 1) w1 hlt hpre1 hi1 hA1
        obtain ⟨fn, tmps, assign, body, hy, hR⟩ := hy
        have HPre := Lib.hid hpre1
        clear hpre1
        have hAr : w1.cell? ⟨A, 0, none⟩ = some (.pointer (some ⟨b, 0, none⟩)) := gcell hg hAk' (by simp; omega)
        have hzr := Lib.hid (fun j hj => gcell hg (HZK.out j hj) (by simp; omega))
        have hE' := Lib.hid hE
        clear hE hg hi hi1 hAk' hcell1 hc hAk
        gi_wp2
        refine ⟨rfl, ?_⟩
        refine hR.mono ?_
        rintro e w2 (⟨rfl, hi2, hs2⟩ | ⟨rfl, hs2⟩)
        · have hA2 := hA1.same (hs2 b (.inl rfl))
          have hAr2 : w2.cell? ⟨A, 0, none⟩ = some (.pointer (some ⟨b, 0, none⟩)) := (World.cell?_of_block (hs2 A (.inr (.inl rfl)))).trans hAr
          have hzr2 := Lib.hid (fun j hj => (World.cell?_of_block (hs2 sb (.inr (.inr rfl)))).trans (hzr.out j hj))
          have H2 := Lib.hid hs2
          clear hs2 hy hR
          gi_wp2
          refine ⟨⟨k + 1, v + z, n + 1, by simp, by omega, ?_, hB1, hi2, hAr2, hzr2.out, ?_, HPre.out⟩, by simp [intOf]; omega⟩
          · rw [show d0 + ((k + 1 : Nat) : Int) = d0 + k + 1 by simp; omega]; exact hA2
          · rw [HR.out, HST.out, if_pos hE'.out, show d0 + ((k + 1 : Nat) : Int) = d0 + k + 1 by simp; omega]
        · gi_wp2
          refine bodyPost_ret (results_none rfl _ _ _) rfl ?_
          exact ⟨⟨_, rfl⟩, .inr ⟨_, _, _, _, hs2, fun h => absurd rfl h⟩⟩
      · gi_wp2_with fail
        refine ⟨trivial, rfl, ?_⟩
        refine (callsIn_wide.2 (change_no b v f n (d0 + k) z wr hAk hBk z0 z1 hE)).mono ?_
        rintro e w1 ⟨rfl, hg⟩
        have hi1 := HI.out k wr w1 hi (gwider hg _)
        have hA1 := hAk.kept hg (by simp)
        obtain ⟨fn, tmps, assign, body, hy, hR⟩ := HN.out k v n _ w1 hlt hE HP.out hi1 hA1
        have hfin : runS f v0 n0 d0 zs = (v, n, d0 + k, chE v f n z) := by rw [HR.out, HST.out, if_neg hE]
        have HF := Lib.hid hfin
        have hE' := Lib.hid hE
        clear hE hg hi hi1 hAk' hcell1 hc hAk hfin
        gi_wp2
        refine ⟨rfl, ?_⟩
        refine hR.mono ?_
        rintro e w2 ⟨rfl, hs2⟩
        clear hy hR
        gi_wp2
        refine bodyPost_ret (results_none rfl _ _ _) rfl ?_
        exact ⟨⟨_, rfl⟩, .inr ⟨_, _, _, _, hs2, fun _ => HF.out⟩⟩
    · have hkl : k = zs.length := by omega
      gi_wp2_with fail
      go_end0
      refine ⟨⟨_, rfl⟩, .inl ⟨v, n, d0 + k, ?_, ?_, ?_, hAk⟩⟩
      · rw [HR.out, List.drop_eq_nil_of_le (by omega)]; rfl
      · have := HP.out; rwa [List.take_of_length_le (by omega)] at this
      · rw [← hkl]; exact hi
end Go.Proofs.Ytgcejfcfaaidhaa
