/- The reference's Join and Together. No condition. -/
import Derived.Test.YtgcejfcfaaidhaaDoorRp
import Derived.Test.YtgcejfcfaaidhaaDoorMt
import Derived.Outline
import Derived.LoopN
set_option linter.unusedSimpArgs false
set_option linter.unusedVariables false
namespace Go.Proofs.YtgcejfcfaaidhaaDoor.ref
open Go.RowKit

theorem getD_map (ms : List Nat) (k : Nat) (hk : k < ms.length) : (ms.map (fun m : Nat => (m : Int))).getD k 0 = (ms.getD k 0 : Nat) := by
  simp [List.getD, List.getElem?_eq_getElem hk]
theorem getD_lt (ms : List Nat) (k : Nat) (hk : k < ms.length) (h6 : ∀ x ∈ ms, x < 6) : ms.getD k 0 < 6 := by
  rw [show ms.getD k 0 = ms[k] by simp [List.getD, List.getElem?_eq_getElem hk]]
  exact h6 _ (List.getElem_mem hk)
theorem fitsT (i j : Nat) (hi : i < 6) (hj : j < 6) (w : World) : Tells Tryd.prog w 16 #[.int .i64 i, .int .i64 j] (.bool (fitB i j)) := .pure (fits i j hi hj)
theorem coversT (i j : Nat) (hi : i < 6) (hj : j < 6) (w : World) : Tells Tryd.prog w 17 #[.int .i64 i, .int .i64 j] (.bool (covB i j)) := .pure (covers i j hi hj)

set_option maxRecDepth 100000 in
set_option maxHeartbeats 4000000 in
theorem together (ao : Option Addr) (cap : Nat) (ms : List Nat) (w : World) (hlen : ms.length < 9223372036854775807) (h6 : ∀ x ∈ ms, x < 6) (hz : Row w ao (ms.map (fun m : Nat => (m : Int)))) :
    Tells Tryd.prog w 22 #[.slice ao ms.length cap] (.bool (togL ms)) := by
  refine .of fun w hw => ?_
  have hz := hz.grown hw
  clear hw
  obtain ⟨b, off, hz⟩ := hz.at'
  rw [List.length_map] at hz
  have hz : ∀ k, k < ms.length → ao = some ⟨b, off, none⟩ ∧ w.cell? ⟨b, off + k, none⟩ = some (.int .i64 (ms.getD k 0 : Nat)) := fun k hk => by
    rw [← getD_map ms k hk]; exact hz k hk
  have HZ := Lib.hid hz
  have H6 := Lib.hid h6
  obtain ⟨V, hV⟩ : ∃ V, V = togL ms := ⟨_, rfl⟩
  rw [← hV]
  have HV := Lib.hid hV
  clear hz h6 hV
  have hl : (ms.length : Int) < 9223372036854775807 := by omega
  go_enter Tryd.func22, Tryd.ntmps22
  go_wp2_with fail
  go_loopw [3] (fun i wr => ∃ k : Nat, k ≤ ms.length ∧ i = .int .i64 k ∧ togL (ms.take k) = true ∧ w.grownBy wr none) (fun i _ => ms.length - (intOf i).toNat)
  case atStart => exact ⟨0, Nat.zero_le _, rfl, by simp [togL], World.grownBy.refl _ _⟩
  case round =>
    obtain ⟨k, hk, rfl, hall, hg⟩ := hrel
    have HT := Lib.hid hall
    clear hall
    by_cases hlt : k < ms.length
    · obtain ⟨rfl, hc0⟩ := HZ.out k hlt
      have hx6 := getD_lt ms k hlt H6.out
      go_wp2_with fail
      obtain ⟨wo, rfl⟩ : ∃ wo : World, wo = wr := ⟨_, rfl⟩
      go_loopw [4] (fun i wr => ∃ j : Nat, j ≤ k ∧ i = .int .i64 j ∧ (ms.take j).all (fitB (ms.getD k 0)) = true ∧ w.grownBy wr none) (fun i _ => k - (intOf i).toNat)
      case atStart => exact ⟨0, Nat.zero_le _, rfl, by simp, hg⟩
      case round =>
        obtain ⟨j, hj, rfl, hal, hg2⟩ := hrel
        by_cases hjt : j < k
        · obtain ⟨_, hc1⟩ := HZ.out j (by omega)
          have hy6 := getD_lt ms j (by omega) H6.out
          have d1 := gcell hg2 hc0 (by simp)
          have d2 := gcell hg2 hc1 (by simp)
          have hs : (ms.take (j + 1)).all (fitB (ms.getD k 0)) = ((ms.take j).all (fitB (ms.getD k 0)) && fitB (ms.getD k 0) (ms.getD j 0)) := by
            rw [List.take_succ_eq_append_getElem (show j < ms.length by omega), List.all_append]
            simp [List.getD, List.getElem?_eq_getElem (show j < ms.length by omega)]
          have T := fitsT (ms.getD k 0) (ms.getD j 0) hx6 hy6 w
          have hjl : (j : Int) < ms.length := by omega
          cases hf : fitB (ms.getD k 0) (ms.getD j 0)
          · rw [hf] at T
            have hF : togL ms = false := by
              cases e : togL ms
              · rfl
              · have hp := (togL_iff ms).1 e
                rw [List.pairwise_iff_getElem] at hp
                have := hp j k (by omega) hlt hjt
                rw [fit_sym_f ⟨_, H6.out _ (List.getElem_mem _)⟩ ⟨_, H6.out _ (List.getElem_mem hlt)⟩] at this
                simp only [List.getD, List.getElem?_eq_getElem hlt, List.getElem?_eq_getElem (show j < ms.length by omega), Option.getD_some] at hf
                rw [hf] at this
                cases this
            rw [← HV.out] at hF
            have HF := Lib.hid hF
            generalize ms.getD k 0 = x at *
            generalize ms.getD j 0 = y at *
            clear hal hs hf hc0 hc1 hF
            go_wp2_with fail
            refine at_world' (fun w2 hg => ?_)
            have g_w2 : w.grownBy w2 none := by (refine gtrans ?_ hg; (repeat' (first | (with_reducible exact World.grownBy.refl _ _) | (with_reducible assumption) | (with_reducible refine galloc ?_ _) | (with_reducible refine gdrewN ?_ _) | (with_reducible refine gdrew ?_) | (with_reducible refine gset ?_ (.inl ?_) _) | (with_reducible refine gput ?_ (.inl ?_) _) | (refine gtrans ?_ (by with_reducible assumption)) | omega | (simp; done) | (simp; omega))))
            have hgp : wr.grownBy w2 none := by (refine gtrans ?_ hg; (repeat' (first | (with_reducible exact World.grownBy.refl _ _) | (with_reducible assumption) | (with_reducible refine galloc ?_ _) | (with_reducible refine gdrewN ?_ _) | (with_reducible refine gdrew ?_) | (with_reducible refine gset ?_ (.inl ?_) _) | (with_reducible refine gput ?_ (.inl ?_) _) | (refine gtrans ?_ (by with_reducible assumption)) | omega | (simp; done) | (simp; omega))))
            repeat (have := gcell' hgp ‹World.cell? wr _ = some _›; clear ‹World.cell? wr _ = some _›)
            have hz := hg.size
            try simp at hz
            try (refine claimP (p := w.heap.size < w2.heap.size) ?_ (fun _ => ?_); · omega)
            clear hg hgp hz
            repeat (have := grownCell ‹World.cell? w2 _ = some _›; clear ‹World.cell? w2 _ = some _›)
            refine wp_region_grown (by kernel_rfl) (by kernel_rfl) ?_
            repeat
              first
                | go_big_quiet_skip
                | (go_big_quiet_want
                   go_big_quiet_op
                   first
                     | go_big_quiet_on
                     | (apply Exists.intro
                        refine ⟨fun _ => ?_, ?_⟩
                        · first | (go_at_call 16; exact T.in g_w2 _)
                        go_big_quiet_on))
            refine wpQuiet_nil ?_
            rintro _ ⟨g, rfl⟩
            have h_g := g.h
            repeat (have := ‹∀ g : Grown w2, World.cell? g.W _ = some _› g; clear ‹∀ g : Grown w2, World.cell? g.W _ = some _›)
            go_wp2_with fail
            go_ret
            exact ⟨by first | rfl | (rw [HF.out]; first | rfl | (simp; done) | (simp; omega)) | (simp; done) | (simp; omega), by (repeat' (first | (with_reducible exact World.grownBy.refl _ _) | (with_reducible assumption) | (with_reducible refine galloc ?_ _) | (with_reducible refine gdrewN ?_ _) | (with_reducible refine gdrew ?_) | (with_reducible refine gset ?_ (.inl ?_) _) | (with_reducible refine gput ?_ (.inl ?_) _) | (refine gtrans ?_ (by with_reducible assumption)) | omega | (simp; done) | (simp; omega)))⟩
          · rw [hf] at T
            rw [hf, hal] at hs
            have HS := Lib.hid hs
            generalize ms.getD k 0 = x at *
            generalize ms.getD j 0 = y at *
            clear hal hs hf hc0 hc1
            go_wp2_with fail
            refine at_world' (fun w2 hg => ?_)
            have g_w2 : w.grownBy w2 none := by (refine gtrans ?_ hg; (repeat' (first | (with_reducible exact World.grownBy.refl _ _) | (with_reducible assumption) | (with_reducible refine galloc ?_ _) | (with_reducible refine gdrewN ?_ _) | (with_reducible refine gdrew ?_) | (with_reducible refine gset ?_ (.inl ?_) _) | (with_reducible refine gput ?_ (.inl ?_) _) | (refine gtrans ?_ (by with_reducible assumption)) | omega | (simp; done) | (simp; omega))))
            have hgp : wr.grownBy w2 none := by (refine gtrans ?_ hg; (repeat' (first | (with_reducible exact World.grownBy.refl _ _) | (with_reducible assumption) | (with_reducible refine galloc ?_ _) | (with_reducible refine gdrewN ?_ _) | (with_reducible refine gdrew ?_) | (with_reducible refine gset ?_ (.inl ?_) _) | (with_reducible refine gput ?_ (.inl ?_) _) | (refine gtrans ?_ (by with_reducible assumption)) | omega | (simp; done) | (simp; omega))))
            repeat (have := gcell' hgp ‹World.cell? wr _ = some _›; clear ‹World.cell? wr _ = some _›)
            have hz := hg.size
            try simp at hz
            try (refine claimP (p := w.heap.size < w2.heap.size) ?_ (fun _ => ?_); · omega)
            clear hg hgp hz
            repeat (have := grownCell ‹World.cell? w2 _ = some _›; clear ‹World.cell? w2 _ = some _›)
            refine wp_region_grown (by kernel_rfl) (by kernel_rfl) ?_
            repeat
              first
                | go_big_quiet_skip
                | (go_big_quiet_want
                   go_big_quiet_op
                   first
                     | go_big_quiet_on
                     | (apply Exists.intro
                        refine ⟨fun _ => ?_, ?_⟩
                        · first | (go_at_call 16; exact T.in g_w2 _)
                        go_big_quiet_on))
            refine wpQuiet_nil ?_
            rintro _ ⟨g, rfl⟩
            have h_g := g.h
            repeat (have := ‹∀ g : Grown w2, World.cell? g.W _ = some _› g; clear ‹∀ g : Grown w2, World.cell? g.W _ = some _›)
            go_wp2_with fail
            refine ⟨⟨j + 1, by omega, by go_num, by first | simpa using HS.out | simpa using HS.out.symm, by (repeat' (first | (with_reducible exact World.grownBy.refl _ _) | (with_reducible assumption) | (with_reducible refine galloc ?_ _) | (with_reducible refine gdrewN ?_ _) | (with_reducible refine gdrew ?_) | (with_reducible refine gset ?_ (.inl ?_) _) | (with_reducible refine gput ?_ (.inl ?_) _) | (refine gtrans ?_ (by with_reducible assumption)) | omega | (simp; done) | (simp; omega)))⟩, by simp [intOf]; omega⟩
        · obtain rfl : j = k := by omega
          have hs := togL_snoc ms j hlt H6.out
          rw [HT.out, hal] at hs
          have HS := Lib.hid hs
          clear hal hs
          go_wp2_with fail
          refine ⟨⟨j + 1, by omega, by go_num, by first | simpa using HS.out | simpa using HS.out.symm, by (repeat' (first | (with_reducible exact World.grownBy.refl _ _) | (with_reducible assumption) | (with_reducible refine galloc ?_ _) | (with_reducible refine gdrewN ?_ _) | (with_reducible refine gdrew ?_) | (with_reducible refine gset ?_ (.inl ?_) _) | (with_reducible refine gput ?_ (.inl ?_) _) | (refine gtrans ?_ (by with_reducible assumption)) | omega | (simp; done) | (simp; omega)))⟩, by simp [intOf]; omega⟩
    · obtain rfl : k = ms.length := by omega
      have : V = true := by rw [HV.out, ← HT.out, List.take_of_length_le (Nat.le_refl _)]
      have HF := Lib.hid this
      clear this
      go_wp2_with fail
      go_ret
      exact ⟨by first | rfl | (rw [HF.out]; first | rfl | (simp; done) | (simp; omega)) | (simp; done) | (simp; omega), by (repeat' (first | (with_reducible exact World.grownBy.refl _ _) | (with_reducible assumption) | (with_reducible refine galloc ?_ _) | (with_reducible refine gdrewN ?_ _) | (with_reducible refine gdrew ?_) | (with_reducible refine gset ?_ (.inl ?_) _) | (with_reducible refine gput ?_ (.inl ?_) _) | (refine gtrans ?_ (by with_reducible assumption)) | omega | (simp; done) | (simp; omega)))⟩

set_option maxRecDepth 100000 in
set_option maxHeartbeats 4000000 in
theorem join (ao : Option Addr) (cap : Nat) (ms : List Nat) (w : World) (hlen : ms.length < 9223372036854775807) (h6 : ∀ x ∈ ms, x < 6) (hz : Row w ao (ms.map (fun m : Nat => (m : Int)))) :
    Tells Tryd.prog w 21 #[.slice ao ms.length cap] (.int .i64 (joinL ms)) := by
  refine .of fun w hw => ?_
  have hz := hz.grown hw
  clear hw
  obtain ⟨b, off, hz⟩ := hz.at'
  rw [List.length_map] at hz
  have hz : ∀ k, k < ms.length → ao = some ⟨b, off, none⟩ ∧ w.cell? ⟨b, off + k, none⟩ = some (.int .i64 (ms.getD k 0 : Nat)) := fun k hk => by
    rw [← getD_map ms k hk]; exact hz k hk
  have HZ := Lib.hid hz
  have H6 := Lib.hid h6
  obtain ⟨V, hV⟩ : ∃ V, V = joinL ms := ⟨_, rfl⟩
  rw [← hV]
  have HV := Lib.hid hV
  clear hz h6 hV
  have hl : (ms.length : Int) < 9223372036854775807 := by omega
  go_enter Tryd.func21, Tryd.ntmps21
  go_wp2_with fail
  go_loopw [3] (fun i wr => ∃ k : Nat, k ≤ 5 ∧ i = .int .i64 k ∧ (∀ j, j < k → ms.all (covB j) = false) ∧ w.grownBy wr none) (fun i _ => 5 - (intOf i).toNat)
  case atStart => exact ⟨0, Nat.zero_le _, rfl, by simp, World.grownBy.refl _ _⟩
  case round =>
    obtain ⟨k, hk, rfl, hall, hg⟩ := hrel
    have HT := Lib.hid hall
    clear hall
    by_cases hlt : k < 5
    · have hk5 : (k : Int) < 5 := by omega
      go_wp2_with fail
      obtain ⟨wo, rfl⟩ : ∃ wo : World, wo = wr := ⟨_, rfl⟩
      go_loopw [4, 5] (fun f i wr => ∃ j : Nat, j ≤ ms.length ∧ i = .int .i64 j ∧ f = .bool ((ms.take j).all (covB k)) ∧ w.grownBy wr none) (fun _ i _ => ms.length - (intOf i).toNat)
      case atStart => exact ⟨0, Nat.zero_le _, rfl, by simp, hg⟩
      case round =>
        obtain ⟨j, hj, rfl, rfl, hg2⟩ := hrel
        by_cases hjt : j < ms.length
        · obtain ⟨rfl, hc1⟩ := HZ.out j hjt
          have hy6 := getD_lt ms j hjt H6.out
          have d2 := gcell hg2 hc1 (by simp)
          have hs : (ms.take (j + 1)).all (covB k) = ((ms.take j).all (covB k) && covB k (ms.getD j 0)) := by
            rw [List.take_succ_eq_append_getElem hjt, List.all_append]
            simp [List.getD, List.getElem?_eq_getElem hjt]
          have T := coversT k (ms.getD j 0) (by omega) hy6 w
          have hjl : (j : Int) < ms.length := by omega
          generalize ms.getD j 0 = y at *
          generalize (ms.take j).all (covB k) = f at *
          generalize covB k y = q at *
          have HS := Lib.hid hs
          clear hs hc1
          cases f
          · go_wp2_with fail
            refine ⟨⟨j + 1, by omega, by go_num, by first | simpa using HS.out | simpa using HS.out.symm, by (repeat' (first | (with_reducible exact World.grownBy.refl _ _) | (with_reducible assumption) | (with_reducible refine galloc ?_ _) | (with_reducible refine gdrewN ?_ _) | (with_reducible refine gdrew ?_) | (with_reducible refine gset ?_ (.inl ?_) _) | (with_reducible refine gput ?_ (.inl ?_) _) | (refine gtrans ?_ (by with_reducible assumption)) | omega | (simp; done) | (simp; omega)))⟩, by simp [intOf]; omega⟩
          · go_wp2_with fail
            refine Tells.use T (by (repeat' (first | (with_reducible exact World.grownBy.refl _ _) | (with_reducible assumption) | (with_reducible refine galloc ?_ _) | (with_reducible refine gdrewN ?_ _) | (with_reducible refine gdrew ?_) | (with_reducible refine gset ?_ (.inl ?_) _) | (with_reducible refine gput ?_ (.inl ?_) _) | (refine gtrans ?_ (by with_reducible assumption)) | omega | (simp; done) | (simp; omega)))) (fun w2 g_w2 hg => ?_)
            have hgp : wr.grownBy w2 none := by (refine gtrans ?_ hg; (repeat' (first | (with_reducible exact World.grownBy.refl _ _) | (with_reducible assumption) | (with_reducible refine galloc ?_ _) | (with_reducible refine gdrewN ?_ _) | (with_reducible refine gdrew ?_) | (with_reducible refine gset ?_ (.inl ?_) _) | (with_reducible refine gput ?_ (.inl ?_) _) | (refine gtrans ?_ (by with_reducible assumption)) | omega | (simp; done) | (simp; omega))))
            repeat (have := gcell' hgp ‹World.cell? wr _ = some _›; clear ‹World.cell? wr _ = some _›)
            have hz := hg.size
            try simp at hz
            try (refine claimP (p := w.heap.size < w2.heap.size) ?_ (fun _ => ?_); · omega)
            clear hg hgp hz
            go_wp2_with fail
            refine ⟨⟨j + 1, by omega, by go_num, by first | simpa using HS.out | simpa using HS.out.symm, by (repeat' (first | (with_reducible exact World.grownBy.refl _ _) | (with_reducible assumption) | (with_reducible refine galloc ?_ _) | (with_reducible refine gdrewN ?_ _) | (with_reducible refine gdrew ?_) | (with_reducible refine gset ?_ (.inl ?_) _) | (with_reducible refine gput ?_ (.inl ?_) _) | (refine gtrans ?_ (by with_reducible assumption)) | omega | (simp; done) | (simp; omega)))⟩, by simp [intOf]; omega⟩
        · obtain rfl : j = ms.length := by omega
          rw [List.take_of_length_le (Nat.le_refl _)]
          cases hc : ms.all (covB k)
          · have HC := Lib.hid hc
            clear hc
            go_wp2_with fail
            refine ⟨⟨k + 1, by omega, by go_num, ?_, by (repeat' (first | (with_reducible exact World.grownBy.refl _ _) | (with_reducible assumption) | (with_reducible refine galloc ?_ _) | (with_reducible refine gdrewN ?_ _) | (with_reducible refine gdrew ?_) | (with_reducible refine gset ?_ (.inl ?_) _) | (with_reducible refine gput ?_ (.inl ?_) _) | (refine gtrans ?_ (by with_reducible assumption)) | omega | (simp; done) | (simp; omega)))⟩, by simp [intOf]; omega⟩
            intro j hj
            by_cases e : j = k
            · rw [e]; exact HC.out
            · exact HT.out j (by omega)
          · have : V = k := by rw [HV.out]; exact joinL_first k (by omega) ms H6.out hc HT.out
            have HF := Lib.hid this
            clear this hc
            go_wp2_with fail
            go_ret
            exact ⟨by first | rfl | (rw [HF.out]; first | rfl | (simp; done) | (simp; omega)) | (simp; done) | (simp; omega), by (repeat' (first | (with_reducible exact World.grownBy.refl _ _) | (with_reducible assumption) | (with_reducible refine galloc ?_ _) | (with_reducible refine gdrewN ?_ _) | (with_reducible refine gdrew ?_) | (with_reducible refine gset ?_ (.inl ?_) _) | (with_reducible refine gput ?_ (.inl ?_) _) | (refine gtrans ?_ (by with_reducible assumption)) | omega | (simp; done) | (simp; omega)))⟩
    · obtain rfl : k = 5 := by omega
      have : V = 5 := by rw [HV.out]; exact joinL_last ms H6.out HT.out
      have HF := Lib.hid this
      clear this
      go_wp2_with fail
      go_ret
      exact ⟨by first | rfl | (rw [HF.out]; first | rfl | (simp; done) | (simp; omega)) | (simp; done) | (simp; omega), by (repeat' (first | (with_reducible exact World.grownBy.refl _ _) | (with_reducible assumption) | (with_reducible refine galloc ?_ _) | (with_reducible refine gdrewN ?_ _) | (with_reducible refine gdrew ?_) | (with_reducible refine gset ?_ (.inl ?_) _) | (with_reducible refine gput ?_ (.inl ?_) _) | (refine gtrans ?_ (by with_reducible assumption)) | omega | (simp; done) | (simp; omega)))⟩
end Go.Proofs.YtgcejfcfaaidhaaDoor.ref
