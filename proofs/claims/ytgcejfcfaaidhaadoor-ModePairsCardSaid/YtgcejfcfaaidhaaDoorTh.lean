/- Together tells whether all modes of a list go together, or the error. The tables are laid. -/
import Derived.Test.YtgcejfcfaaidhaaDoorTg
set_option linter.unusedSimpArgs false
set_option linter.unusedVariables false
namespace Go.Proofs.YtgcejfcfaaidhaaDoor
open Go.RowKit ref

theorem rightRow (ao : Option Addr) (cap : Nat) (zs : List Int) (w : World) (hlen : zs.length < 9223372036854775807) (hz : Row w ao zs) :
    Tells Tryd.prog w 48 #[.slice ao zs.length cap] (.bool (zs.all isM)) := by
  intro W hW
  obtain ⟨b, off, h⟩ := (hz.grown hW).at'
  exact right_all b off cap ao zs W hlen h

set_option maxRecDepth 100000 in
set_option maxHeartbeats 4000000 in
theorem together_bad (ao : Option Addr) (cap : Nat) (zs : List Int) (w : World) (hlen : zs.length < 9223372036854775807) (hz : Row w ao zs) (hb : zs.all isM = false) :
    Tells Tryd.prog w 19 #[.slice ao zs.length cap] (.tuple #[.bool false, .int .i64 130]) := by
  refine .of fun w hw => ?_
  have T := (rightRow ao cap zs _ hlen hz).up hw
  rw [hb] at T
  clear hz hb hw
  go_enter Tryd.func19, Tryd.ntmps19
  go_wp2_with fail
  refine Tells.use T (by (repeat' (first | (with_reducible exact World.grownBy.refl _ _) | (with_reducible assumption) | (with_reducible refine galloc ?_ _) | (with_reducible refine gdrewN ?_ _) | (with_reducible refine gdrew ?_) | (with_reducible refine gset ?_ (.inl ?_) _) | (with_reducible refine gput ?_ (.inl ?_) _) | (refine gtrans ?_ (by with_reducible assumption)) | omega | (simp; done) | (simp; omega)))) (fun w2 g_w2 hg => ?_)
  have hgp : w.grownBy w2 none := by (refine gtrans ?_ hg; (repeat' (first | (with_reducible exact World.grownBy.refl _ _) | (with_reducible assumption) | (with_reducible refine galloc ?_ _) | (with_reducible refine gdrewN ?_ _) | (with_reducible refine gdrew ?_) | (with_reducible refine gset ?_ (.inl ?_) _) | (with_reducible refine gput ?_ (.inl ?_) _) | (refine gtrans ?_ (by with_reducible assumption)) | omega | (simp; done) | (simp; omega))))
  repeat (have := gcell' hgp ‹World.cell? w _ = some _›; clear ‹World.cell? w _ = some _›)
  try (have := gcell hg (b := w.heap.size) (o := 0) (by go_simp; rfl) (by simp))
  have hz := hg.size
  try simp at hz
  try (refine claimP (p := w.heap.size < w2.heap.size) ?_ (fun _ => ?_); · omega)
  clear hg hgp hz
  go_wp2_with fail
  go_ret2
  exact ⟨by first | rfl | (simp; done) | (simp; omega), by (repeat' (first | (with_reducible exact World.grownBy.refl _ _) | (with_reducible assumption) | (with_reducible refine galloc ?_ _) | (with_reducible refine gdrewN ?_ _) | (with_reducible refine gdrew ?_) | (with_reducible refine gset ?_ (.inl ?_) _) | (with_reducible refine gput ?_ (.inl ?_) _) | (refine gtrans ?_ (by with_reducible assumption)) | omega | (simp; done) | (simp; omega)))⟩

/-- A bad pair among the first. -/
theorem all_bad_next {ms : List Nat} {a b : Nat} (h : ∀ x y, (x < a ∨ (x = a ∧ y < b)) → y ≤ x → badC ms x y = false) (hb : badC ms a b = false) : ∀ x y, (x < a ∨ (x = a ∧ y < b + 1)) → y ≤ x → badC ms x y = false := by
  intro x y hxy hyx
  by_cases e : x = a ∧ y = b
  · rw [e.1, e.2]; exact hb
  · exact h x y (by omega) hyx

set_option maxRecDepth 100000 in
set_option maxHeartbeats 8000000 in
theorem together_good (ao : Option Addr) (cap : Nat) (ms : List Nat) (w : World) (hT : Tabs w) (hlen : ms.length < 1000) (h6 : ∀ x ∈ ms, x < 6) (hz : Row w ao (ms.map (fun m : Nat => (m : Int)))) :
    Tells Tryd.prog w 19 #[.slice ao ms.length cap] (.tuple #[.bool (togL ms), .int .i64 0]) := by
  refine .of fun w hw => ?_
  have T := (rightRow ao cap (ms.map (fun m : Nat => (m : Int))) _ (by simp; omega) hz).up hw
  rw [show (ms.map (fun m : Nat => (m : Int))).all isM = true by
    rw [List.all_eq_true]
    intro z hz
    obtain ⟨m, hm, rfl⟩ := List.mem_map.1 hz
    have := h6 m hm
    simp [isM]; omega, List.length_map] at T
  have TC := (fold_count ao cap ms _ hlen h6 hz).up hw
  obtain ⟨V, hV⟩ : ∃ V, V = togL ms := ⟨_, rfl⟩
  rw [← hV]
  have HV := Lib.hid hV
  have HT := Lib.hid (hT.grown hw)
  have hTs : 0 < w.heap.size := World.block_lt_of_cell? w _ ((hT.grown hw).fits 0 0 (by omega) (by omega))
  have H6 := Lib.hid h6
  clear hz h6 hT hw hV
  unfold cntV at TC
  have lc : ∀ x, ms.count x < 1000 := fun x => Nat.lt_of_le_of_lt List.count_le_length hlen
  have LC := Lib.hid lc
  clear lc
  go_enter Tryd.func19, Tryd.ntmps19
  go_wp2_with fail
  refine Tells.use T (by (repeat' (first | (with_reducible exact World.grownBy.refl _ _) | (with_reducible assumption) | (with_reducible refine galloc ?_ _) | (with_reducible refine gdrewN ?_ _) | (with_reducible refine gdrew ?_) | (with_reducible refine gset ?_ (.inl ?_) _) | (with_reducible refine gput ?_ (.inl ?_) _) | (refine gtrans ?_ (by with_reducible assumption)) | omega | (simp; done) | (simp; omega)))) (fun w2 g_w2 hg => ?_)
  have hgp : w.grownBy w2 none := by (refine gtrans ?_ hg; (repeat' (first | (with_reducible exact World.grownBy.refl _ _) | (with_reducible assumption) | (with_reducible refine galloc ?_ _) | (with_reducible refine gdrewN ?_ _) | (with_reducible refine gdrew ?_) | (with_reducible refine gset ?_ (.inl ?_) _) | (with_reducible refine gput ?_ (.inl ?_) _) | (refine gtrans ?_ (by with_reducible assumption)) | omega | (simp; done) | (simp; omega))))
  repeat (have := gcell' hgp ‹World.cell? w _ = some _›; clear ‹World.cell? w _ = some _›)
  try (have := gcell hg (b := w.heap.size) (o := 0) (by go_simp; rfl) (by simp))
  have hz := hg.size
  try simp at hz
  try (refine claimP (p := w.heap.size < w2.heap.size) ?_ (fun _ => ?_); · omega)
  clear hg hgp hz
  go_wp2_with fail
  refine Tells.use TC (by (repeat' (first | (with_reducible exact World.grownBy.refl _ _) | (with_reducible assumption) | (with_reducible refine galloc ?_ _) | (with_reducible refine gdrewN ?_ _) | (with_reducible refine gdrew ?_) | (with_reducible refine gset ?_ (.inl ?_) _) | (with_reducible refine gput ?_ (.inl ?_) _) | (refine gtrans ?_ (by with_reducible assumption)) | omega | (simp; done) | (simp; omega)))) (fun w3 g_w3 hg => ?_)
  have hgp : w2.grownBy w3 none := by (refine gtrans ?_ hg; (repeat' (first | (with_reducible exact World.grownBy.refl _ _) | (with_reducible assumption) | (with_reducible refine galloc ?_ _) | (with_reducible refine gdrewN ?_ _) | (with_reducible refine gdrew ?_) | (with_reducible refine gset ?_ (.inl ?_) _) | (with_reducible refine gput ?_ (.inl ?_) _) | (refine gtrans ?_ (by with_reducible assumption)) | omega | (simp; done) | (simp; omega))))
  repeat (have := gcell' hgp ‹World.cell? w2 _ = some _›; clear ‹World.cell? w2 _ = some _›)
  try (have := gcell hg (b := w2.heap.size) (o := 0) (by go_simp; rfl) (by simp))
  try (have := gcell hg (b := w2.heap.size) (o := 1) (by go_simp; rfl) (by simp))
  try (have := gcell hg (b := w2.heap.size) (o := 2) (by go_simp; rfl) (by simp))
  try (have := gcell hg (b := w2.heap.size) (o := 3) (by go_simp; rfl) (by simp))
  try (have := gcell hg (b := w2.heap.size) (o := 4) (by go_simp; rfl) (by simp))
  try (have := gcell hg (b := w2.heap.size) (o := 5) (by go_simp; rfl) (by simp))
  try (have := gcell hg (b := w2.heap.size + 1) (o := 0) (by go_simp; rfl) (by simp))
  try (have := gcell hg (b := w2.heap.size + 1) (o := 1) (by go_simp; rfl) (by simp))
  try (have := gcell hg (b := w2.heap.size + 1) (o := 2) (by go_simp; rfl) (by simp))
  try (have := gcell hg (b := w2.heap.size + 1) (o := 3) (by go_simp; rfl) (by simp))
  try (have := gcell hg (b := w2.heap.size + 1) (o := 4) (by go_simp; rfl) (by simp))
  try (have := gcell hg (b := w2.heap.size + 1) (o := 5) (by go_simp; rfl) (by simp))
  have hz := hg.size
  try simp at hz
  try (refine claimP (p := w2.heap.size < w3.heap.size) ?_ (fun _ => ?_); · omega)
  try (refine claimP (p := w2.heap.size + 1 < w3.heap.size) ?_ (fun _ => ?_); · omega)
  try (refine claimP (p := w.heap.size < w3.heap.size) ?_ (fun _ => ?_); · omega)
  clear hg hgp hz
  go_wp2_with fail
  refine at_world' (fun w4 hg => ?_)
  have g_w4 : w.grownBy w4 none := by (refine gtrans ?_ hg; (repeat' (first | (with_reducible exact World.grownBy.refl _ _) | (with_reducible assumption) | (with_reducible refine galloc ?_ _) | (with_reducible refine gdrewN ?_ _) | (with_reducible refine gdrew ?_) | (with_reducible refine gset ?_ (.inl ?_) _) | (with_reducible refine gput ?_ (.inl ?_) _) | (refine gtrans ?_ (by with_reducible assumption)) | omega | (simp; done) | (simp; omega))))
  have hgp : w3.grownBy w4 none := by (refine gtrans ?_ hg; (repeat' (first | (with_reducible exact World.grownBy.refl _ _) | (with_reducible assumption) | (with_reducible refine galloc ?_ _) | (with_reducible refine gdrewN ?_ _) | (with_reducible refine gdrew ?_) | (with_reducible refine gset ?_ (.inl ?_) _) | (with_reducible refine gput ?_ (.inl ?_) _) | (refine gtrans ?_ (by with_reducible assumption)) | omega | (simp; done) | (simp; omega))))
  repeat (have := gcell' hgp ‹World.cell? w3 _ = some _›; clear ‹World.cell? w3 _ = some _›)
  try (have := gcell hg (b := w3.heap.size) (o := 0) (by go_simp; rfl) (by simp))
  try (have := gcell hg (b := w3.heap.size) (o := 1) (by go_simp; rfl) (by simp))
  try (have := gcell hg (b := w3.heap.size) (o := 2) (by go_simp; rfl) (by simp))
  try (have := gcell hg (b := w3.heap.size) (o := 3) (by go_simp; rfl) (by simp))
  try (have := gcell hg (b := w3.heap.size) (o := 4) (by go_simp; rfl) (by simp))
  try (have := gcell hg (b := w3.heap.size) (o := 5) (by go_simp; rfl) (by simp))
  have hz := hg.size
  try simp at hz
  try (refine claimP (p := w3.heap.size < w4.heap.size) ?_ (fun _ => ?_); · omega)
  try (refine claimP (p := w.heap.size < w4.heap.size) ?_ (fun _ => ?_); · omega)
  try (refine claimP (p := w2.heap.size < w4.heap.size) ?_ (fun _ => ?_); · omega)
  clear hg hgp hz
  have HC : ∀ x, x < 6 → w4.cell? ⟨w3.heap.size, x, none⟩ = some (.int .i64 (ms.count x : Nat)) := by
    intro x hx
    have hi' : x = 0 ∨ x = 1 ∨ x = 2 ∨ x = 3 ∨ x = 4 ∨ x = 5 := by omega
    rcases hi' with rfl | rfl | rfl | rfl | rfl | rfl <;> with_reducible assumption
  have HC' := Lib.hid HC
  have s34 : w3.heap.size < w4.heap.size := by with_reducible assumption
  clear HC
  repeat clear ‹World.cell? w4 _ = some _›
  go_loopw [13] (fun i wr => ∃ k : Nat, k ≤ 6 ∧ i = .int .i64 k ∧ (∀ x y, (x < k ∨ (x = k ∧ y < 0)) → y ≤ x → badC ms x y = false) ∧ w4.grownBy wr none) (fun i _ => 6 - (intOf i).toNat)
  case atStart => exact ⟨0, Nat.zero_le _, rfl, fun x y h => by omega, World.grownBy.refl _ _⟩
  case round =>
    obtain ⟨k, hk, rfl, hall, hg⟩ := hrel
    have HA := Lib.hid hall
    clear hall
    by_cases hlt : k < 6
    · have hk6 : (k : Int) < 6 := by omega
      go_wp2_with fail
      obtain ⟨wo, rfl⟩ : ∃ wo : World, wo = wr := ⟨_, rfl⟩
      go_loopw [18] (fun i wr => ∃ j : Nat, j ≤ k + 1 ∧ i = .int .i64 j ∧ (∀ x y, (x < k ∨ (x = k ∧ y < j)) → y ≤ x → badC ms x y = false) ∧ w4.grownBy wr none) (fun i _ => k + 1 - (intOf i).toNat)
      case atStart => exact ⟨0, Nat.zero_le _, rfl, HA.out, hg⟩
      case round =>
        obtain ⟨j, hj, rfl, hal, hg2⟩ := hrel
        have HA2 := Lib.hid hal
        clear hal
        by_cases hjt : j < k + 1
        · have ca := gcell' hg2 (HC'.out k (by omega))
          have cb := gcell' hg2 (HC'.out j (by omega))
          have ct := (HT.out.grown (gtrans g_w4 hg2)).fits k j (by omega) (by omega)
          have hN : (ms.count k = 0 ∨ ms.count j = 0 ∨ (k = j ∧ ms.count k ≤ 1) ∨ fitB k j = true) → badC ms k j = false := by
            intro h
            unfold badC
            rcases h with h | h | h | h
            · simp [h]
            · simp [h]
            · rw [show decide (k ≠ j) = false by simp [h.1], show decide (1 < ms.count k) = false by simp; exact h.2]
              simp
            · simp [h]
          have hY : 0 < ms.count k → 0 < ms.count j → (k ≠ j ∨ 1 < ms.count k) → fitB k j = false → V = false := by
            intro h1 h2 h3 h4
            rw [HV.out]
            exact tog_some ms H6.out k j (by simp only [badC, Bool.and_eq_true, decide_eq_true_eq, Bool.or_eq_true]; exact ⟨⟨⟨h1, h2⟩, h3⟩, by simp [h4]⟩)
          have hkj : (j : Int) < k + 1 := by omega
          have hj6 : (j : Int) < 6 := by omega
          have ka := LC.out k
          have kb := LC.out j
          generalize ms.count k = p at ca hN hY ka
          generalize ms.count j = q at cb hN hY kb
          by_cases hp : p = 0
          · have HN := Lib.hid (hN (.inl hp))
            rw [hp] at ca
            clear hN hY hp ka kb
            go_wp2_with fail
            go_wp2_with fail
            all_goals refine ⟨⟨j + 1, by omega, by go_num, all_bad_next HA2.out HN.out, by (repeat' (first | (with_reducible exact World.grownBy.refl _ _) | (with_reducible assumption) | (with_reducible refine galloc ?_ _) | (with_reducible refine gdrewN ?_ _) | (with_reducible refine gdrew ?_) | (with_reducible refine gset ?_ (.inl ?_) _) | (with_reducible refine gput ?_ (.inl ?_) _) | (refine gtrans ?_ (by with_reducible assumption)) | omega | (simp; done) | (simp; omega)))⟩, by first | (simp [intOf]; done) | (simp [intOf]; omega)⟩
          by_cases hq : q = 0
          · have HN := Lib.hid (hN (.inr (.inl hq)))
            rw [hq] at cb
            have ha : (0 : Int) < p := by omega
            clear hN hY hp hq ka kb
            go_wp2_with fail
            go_wp2_with fail
            all_goals refine ⟨⟨j + 1, by omega, by go_num, all_bad_next HA2.out HN.out, by (repeat' (first | (with_reducible exact World.grownBy.refl _ _) | (with_reducible assumption) | (with_reducible refine galloc ?_ _) | (with_reducible refine gdrewN ?_ _) | (with_reducible refine gdrew ?_) | (with_reducible refine gset ?_ (.inl ?_) _) | (with_reducible refine gput ?_ (.inl ?_) _) | (refine gtrans ?_ (by with_reducible assumption)) | omega | (simp; done) | (simp; omega)))⟩, by first | (simp [intOf]; done) | (simp [intOf]; omega)⟩
          have ha : (0 : Int) < p := by omega
          have hb : (0 : Int) < q := by omega
          by_cases e : k = j
          · by_cases h1 : p ≤ 1
            · have HN := Lib.hid (hN (.inr (.inr (.inl ⟨e, h1⟩))))
              have h1' : ¬ (1 : Int) < p := by omega
              clear hN hY hp hq ka kb h1
              subst e
              go_wp2_with fail
              go_wp2_with fail
              all_goals refine ⟨⟨k + 1, by omega, by go_num, all_bad_next HA2.out HN.out, by (repeat' (first | (with_reducible exact World.grownBy.refl _ _) | (with_reducible assumption) | (with_reducible refine galloc ?_ _) | (with_reducible refine gdrewN ?_ _) | (with_reducible refine gdrew ?_) | (with_reducible refine gset ?_ (.inl ?_) _) | (with_reducible refine gput ?_ (.inl ?_) _) | (refine gtrans ?_ (by with_reducible assumption)) | omega | (simp; done) | (simp; omega)))⟩, by first | (simp [intOf]; done) | (simp [intOf]; omega)⟩
            · have h1' : (1 : Int) < p := by omega
              cases hf : fitB k j
              · have HF := Lib.hid (hY (by omega) (by omega) (.inr (by omega)) hf)
                rw [hf] at ct
                clear hN hY hp hq ka kb h1 hf
                subst e
                go_wp2_with fail
                go_wp2_with fail
                all_goals
                  go_ret2
                  exact ⟨by first | rfl | (rw [HF.out]; first | rfl | (simp; done) | (simp; omega)) | (simp; done) | (simp; omega), by (repeat' (first | (with_reducible exact World.grownBy.refl _ _) | (with_reducible assumption) | (with_reducible refine galloc ?_ _) | (with_reducible refine gdrewN ?_ _) | (with_reducible refine gdrew ?_) | (with_reducible refine gset ?_ (.inl ?_) _) | (with_reducible refine gput ?_ (.inl ?_) _) | (refine gtrans ?_ (by with_reducible assumption)) | omega | (simp; done) | (simp; omega)))⟩
              · have HN := Lib.hid (hN (.inr (.inr (.inr hf))))
                rw [hf] at ct
                clear hN hY hp hq ka kb h1 hf
                subst e
                go_wp2_with fail
                go_wp2_with fail
                all_goals refine ⟨⟨k + 1, by omega, by go_num, all_bad_next HA2.out HN.out, by (repeat' (first | (with_reducible exact World.grownBy.refl _ _) | (with_reducible assumption) | (with_reducible refine galloc ?_ _) | (with_reducible refine gdrewN ?_ _) | (with_reducible refine gdrew ?_) | (with_reducible refine gset ?_ (.inl ?_) _) | (with_reducible refine gput ?_ (.inl ?_) _) | (refine gtrans ?_ (by with_reducible assumption)) | omega | (simp; done) | (simp; omega)))⟩, by first | (simp [intOf]; done) | (simp [intOf]; omega)⟩
          · have e1 : ((k : Int) == (j : Int)) = false := by simp; omega
            have e2 : ¬ (k : Int) = j := by omega
            cases hf : fitB k j
            · have HF := Lib.hid (hY (by omega) (by omega) (.inl e) hf)
              rw [hf] at ct
              clear hN hY hp hq ka kb hf
              go_wp2_with fail
              go_wp2_with fail
              all_goals
                go_ret2
                exact ⟨by first | rfl | (rw [HF.out]; first | rfl | (simp; done) | (simp; omega)) | (simp; done) | (simp; omega), by (repeat' (first | (with_reducible exact World.grownBy.refl _ _) | (with_reducible assumption) | (with_reducible refine galloc ?_ _) | (with_reducible refine gdrewN ?_ _) | (with_reducible refine gdrew ?_) | (with_reducible refine gset ?_ (.inl ?_) _) | (with_reducible refine gput ?_ (.inl ?_) _) | (refine gtrans ?_ (by with_reducible assumption)) | omega | (simp; done) | (simp; omega)))⟩
            · have HN := Lib.hid (hN (.inr (.inr (.inr hf))))
              rw [hf] at ct
              clear hN hY hp hq ka kb hf
              go_wp2_with fail
              go_wp2_with fail
              all_goals refine ⟨⟨j + 1, by omega, by go_num, all_bad_next HA2.out HN.out, by (repeat' (first | (with_reducible exact World.grownBy.refl _ _) | (with_reducible assumption) | (with_reducible refine galloc ?_ _) | (with_reducible refine gdrewN ?_ _) | (with_reducible refine gdrew ?_) | (with_reducible refine gset ?_ (.inl ?_) _) | (with_reducible refine gput ?_ (.inl ?_) _) | (refine gtrans ?_ (by with_reducible assumption)) | omega | (simp; done) | (simp; omega)))⟩, by first | (simp [intOf]; done) | (simp [intOf]; omega)⟩
        · obtain rfl : j = k + 1 := by omega
          go_wp2_with fail
          refine ⟨⟨k + 1, by omega, by go_num, fun x y h hyx => HA2.out x y (by omega) hyx, by (repeat' (first | (with_reducible exact World.grownBy.refl _ _) | (with_reducible assumption) | (with_reducible refine galloc ?_ _) | (with_reducible refine gdrewN ?_ _) | (with_reducible refine gdrew ?_) | (with_reducible refine gset ?_ (.inl ?_) _) | (with_reducible refine gput ?_ (.inl ?_) _) | (refine gtrans ?_ (by with_reducible assumption)) | omega | (simp; done) | (simp; omega)))⟩, by first | (simp [intOf]; done) | (simp [intOf]; omega)⟩
    · obtain rfl : k = 6 := by omega
      have : V = true := by rw [HV.out]; exact tog_none ms H6.out (fun x y hx hyx => HA.out x y (.inl hx) hyx)
      have HF := Lib.hid this
      clear this
      go_wp2_with fail
      go_ret2
      exact ⟨by first | rfl | (rw [HF.out]; first | rfl | (simp; done) | (simp; omega)) | (simp; done) | (simp; omega), by (repeat' (first | (with_reducible exact World.grownBy.refl _ _) | (with_reducible assumption) | (with_reducible refine galloc ?_ _) | (with_reducible refine gdrewN ?_ _) | (with_reducible refine gdrew ?_) | (with_reducible refine gset ?_ (.inl ?_) _) | (with_reducible refine gput ?_ (.inl ?_) _) | (refine gtrans ?_ (by with_reducible assumption)) | omega | (simp; done) | (simp; omega)))⟩
end Go.Proofs.YtgcejfcfaaidhaaDoor
