/- The reference's Parse. No condition. -/
import Derived.Test.YtgcejfcfaaidhaaDoorRg
import Derived.Outline
set_option linter.unusedSimpArgs false
set_option linter.unusedVariables false
namespace Go.Proofs.YtgcejfcfaaidhaaDoor.ref
open Go.RowKit

theorem nameV_iff (k : Nat) (s : ByteArray) : nameV k = .string s ↔ namT.getD k [] = s.data.toList := by
  unfold nameV
  constructor
  · intro h
    have := congrArg (fun v => match v with | .string b => b.data.toList | _ => []) h
    simpa using this
  · intro h
    rw [h]
theorem modeOf_hit (k : Nat) (hk : k < 6) (s : ByteArray) (h : nameV k = .string s) : modeOf s.data.toList = k := by
  rw [nameV_iff] at h
  rw [← h]
  exact (by decide : ∀ k : Fin 6, modeOf (namT.getD k.1 []) = k.1) ⟨k, hk⟩
theorem modeOf_miss (s : ByteArray) (h : ∀ j, j < 6 → nameV j ≠ .string s) : modeOf s.data.toList = 6 := by
  unfold modeOf
  rw [List.find?_eq_none.2]
  · rfl
  · intro m hm
    simp only [List.mem_range] at hm
    have := h m hm
    rw [Ne, nameV_iff] at this
    simpa using this
theorem beqL_true {a b : ByteArray} (h : (a.toList == b.toList) = true) : a = b := by
  have := eq_of_beq h
  rw [ByteArray.toList_eq, ByteArray.toList_eq] at this
  cases a; cases b
  congr 1
  exact Array.ext' this
theorem beqL_false {a b : ByteArray} (h : (a.toList == b.toList) = false) : a ≠ b := by
  rintro rfl
  simp at h
/-- What a reading of a name tells. -/
def parseR (s : ByteArray) : Value := if modeOf s.data.toList < 6 then .tuple #[.int .i64 (modeOf s.data.toList), .bool true] else .tuple #[.int .i64 0, .bool false]

set_option maxRecDepth 100000 in
set_option maxHeartbeats 4000000 in
theorem parse (s : ByteArray) (w : World) : Tells Tryd.prog w 25 #[.string s] (parseR s) := by
  refine .pure fun w => ?_
  have R := fun i hi => name i hi w
  obtain ⟨V, hV⟩ : ∃ V, V = parseR s := ⟨_, rfl⟩
  rw [← hV]
  have HV := Lib.hid hV
  clear hV
  go_enter Tryd.func25, Tryd.ntmps25
  go_wp2_with fail
  go_loopw [4] (fun i wr => ∃ k : Nat, k ≤ 6 ∧ i = .int .i64 k ∧ (∀ j, j < k → nameV j ≠ .string s) ∧ w.grownBy wr none) (fun i _ => 6 - (intOf i).toNat)
  case atStart => exact ⟨0, Nat.zero_le _, rfl, by simp, World.grownBy.refl _ _⟩
  case round =>
    obtain ⟨k, hk, rfl, hall, hg⟩ := hrel
    by_cases hlt : k < 6
    · have T := R k hlt
      obtain ⟨nk, hnk⟩ : ∃ b : ByteArray, nameV k = .string b := ⟨_, rfl⟩
      rw [hnk] at T
      have HN := Lib.hid hnk
      have HA := Lib.hid hall
      clear hnk hall R
      have hk5 : (k : Int) ≤ 5 := by omega
      go_wp2_with fail
      refine Tells.use T (by (repeat' (first | (with_reducible exact World.grownBy.refl _ _) | (with_reducible assumption) | (with_reducible refine galloc ?_ _) | (with_reducible refine gdrewN ?_ _) | (with_reducible refine gdrew ?_) | (with_reducible refine gset ?_ (.inl ?_) _) | (with_reducible refine gput ?_ (.inl ?_) _) | (refine gtrans ?_ (by with_reducible assumption)) | omega | (simp; done) | (simp; omega)))) (fun w2 g_w2 hg => ?_)
      have hgp : wr.grownBy w2 none := by (refine gtrans ?_ hg; (repeat' (first | (with_reducible exact World.grownBy.refl _ _) | (with_reducible assumption) | (with_reducible refine galloc ?_ _) | (with_reducible refine gdrewN ?_ _) | (with_reducible refine gdrew ?_) | (with_reducible refine gset ?_ (.inl ?_) _) | (with_reducible refine gput ?_ (.inl ?_) _) | (refine gtrans ?_ (by with_reducible assumption)) | omega | (simp; done) | (simp; omega))))
      repeat (have := gcell' hgp ‹World.cell? wr _ = some _›; clear ‹World.cell? wr _ = some _›)
      have hz := hg.size
      try simp at hz
      try (refine claimP (p := w.heap.size < w2.heap.size) ?_ (fun _ => ?_); · omega)
      clear hg hgp hz
      go_wp2_with fail
      · rename_i hs
        have hs := beqL_true hs
        rw [hs] at HN
        have : V = .tuple #[.int .i64 k, .bool true] := by rw [HV.out, parseR, modeOf_hit k hlt s HN.out, if_pos hlt]
        go_ret2
        exact ⟨by first | rfl | (rw [this]; first | rfl | (simp; done) | (simp; omega)) | (simp; done) | (simp; omega), by (repeat' (first | (with_reducible exact World.grownBy.refl _ _) | (with_reducible assumption) | (with_reducible refine galloc ?_ _) | (with_reducible refine gdrewN ?_ _) | (with_reducible refine gdrew ?_) | (with_reducible refine gset ?_ (.inl ?_) _) | (with_reducible refine gput ?_ (.inl ?_) _) | (refine gtrans ?_ (by with_reducible assumption)) | omega | (simp; done) | (simp; omega)))⟩
      · rename_i hs
        have hs := beqL_false hs
        have hn : nameV k ≠ .string s := by rw [HN.out]; simpa using hs
        refine ⟨⟨k + 1, by omega, by go_num, ?_, by (repeat' (first | (with_reducible exact World.grownBy.refl _ _) | (with_reducible assumption) | (with_reducible refine galloc ?_ _) | (with_reducible refine gdrewN ?_ _) | (with_reducible refine gdrew ?_) | (with_reducible refine gset ?_ (.inl ?_) _) | (with_reducible refine gput ?_ (.inl ?_) _) | (refine gtrans ?_ (by with_reducible assumption)) | omega | (simp; done) | (simp; omega)))⟩, by simp [intOf]; omega⟩
        intro j hj
        by_cases e : j = k
        · rw [e]; exact hn
        · exact HA.out j (by omega)
    · obtain rfl : k = 6 := by omega
      have : V = .tuple #[.int .i64 0, .bool false] := by rw [HV.out, parseR, modeOf_miss s hall, if_neg (by omega)]
      have HT := Lib.hid this
      clear hall this HV R
      go_wp2_with fail
      go_ret2
      exact ⟨by first | rfl | (rw [HT.out]; first | rfl | (simp; done) | (simp; omega)) | (simp; done) | (simp; omega), by (repeat' (first | (with_reducible exact World.grownBy.refl _ _) | (with_reducible assumption) | (with_reducible refine galloc ?_ _) | (with_reducible refine gdrewN ?_ _) | (with_reducible refine gdrew ?_) | (with_reducible refine gset ?_ (.inl ?_) _) | (with_reducible refine gput ?_ (.inl ?_) _) | (refine gtrans ?_ (by with_reducible assumption)) | omega | (simp; done) | (simp; omega)))⟩
end Go.Proofs.YtgcejfcfaaidhaaDoor.ref
