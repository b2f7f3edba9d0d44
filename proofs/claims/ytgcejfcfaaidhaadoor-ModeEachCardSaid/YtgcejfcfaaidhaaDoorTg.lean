/- Together: counts of modes, and what they tell. The tables are laid. -/
import Derived.Test.YtgcejfcfaaidhaaDoorTf
import Derived.Handy
set_option linter.unusedSimpArgs false
set_option linter.unusedVariables false
namespace Go.Proofs.YtgcejfcfaaidhaaDoor
open Go.RowKit ref

theorem cntV_snoc (ms : List Nat) (k : Nat) (hk : k < ms.length) (m : Nat) (hm : m = ms.getD k 0) (x : Nat) : ((ms.take (k + 1)).count x : Nat) = if m = x then (ms.take k).count x + 1 else (ms.take k).count x := by
  rw [List.take_succ_eq_append_getElem hk, List.count_append, hm, show ms.getD k 0 = ms[k] by simp [List.getD, List.getElem?_eq_getElem hk]]
  by_cases e : ms[k] = x
  · simp [e]
  · rw [if_neg e, List.count_singleton, if_neg (by simpa using e), Nat.add_zero]

set_option maxRecDepth 100000 in
set_option maxHeartbeats 4000000 in
theorem fold_count (ao : Option Addr) (cap : Nat) (ms : List Nat) (w : World) (hlen : ms.length < 1000) (h6 : ∀ x ∈ ms, x < 6) (hz : Row w ao (ms.map (fun m : Nat => (m : Int)))) :
    Tells Tryd.prog w 52 #[.agg #[.int .i64 0, .int .i64 0, .int .i64 0, .int .i64 0, .int .i64 0, .int .i64 0], .func (.func 53) #[] #[], .slice ao ms.length cap] (cntV ms) := by
  refine .of fun w hw => ?_
  have hz := hz.grown hw
  clear hw
  obtain ⟨b, off, hz⟩ := hz.at'
  rw [List.length_map] at hz
  have hz : ∀ k, k < ms.length → ao = some ⟨b, off, none⟩ ∧ w.cell? ⟨b, off + k, none⟩ = some (.int .i64 (ms.getD k 0 : Nat)) := fun k hk => by
    rw [← getD_map ms k hk]; exact hz k hk
  have HZ := Lib.hid hz
  have H6 := Lib.hid h6
  clear hz h6
  have hl : (ms.length : Int) < 1000 := by omega
  obtain ⟨V, hV⟩ : ∃ V, V = cntV ms := ⟨_, rfl⟩
  rw [← hV]
  have HV := Lib.hid hV
  clear hV
  go_enter Tryd.func52, Tryd.ntmps52
  go_wp2_with fail
  have hn : (1:Nat) ≤ 2 := by omega
  go_loopw [11] (fun i wr => ∃ k : Nat, k ≤ ms.length ∧ i = .int .i64 k ∧ w.grownBy wr none ∧ w.heap.size + 1 < wr.heap.size ∧ wr.heap[w.heap.size]? = some (.cells #[.int .i64 ((ms.take k).count 0 : Nat), .int .i64 ((ms.take k).count 1 : Nat), .int .i64 ((ms.take k).count 2 : Nat), .int .i64 ((ms.take k).count 3 : Nat), .int .i64 ((ms.take k).count 4 : Nat), .int .i64 ((ms.take k).count 5 : Nat)] 80 (0, 0)) ∧ wr.heap[w.heap.size + 1]? = some (.cells #[.int .i64 0, .int .i64 0, .int .i64 0, .int .i64 0, .int .i64 0, .int .i64 0] 80 (0, 0))) (fun i _ => ms.length - (intOf i).toNat)
  case atStart => exact ⟨0, Nat.zero_le _, rfl, by (repeat' (first | (with_reducible exact World.grownBy.refl _ _) | (with_reducible assumption) | (with_reducible refine galloc ?_ _) | (with_reducible refine gdrewN ?_ _) | (with_reducible refine gdrew ?_) | (with_reducible refine gset ?_ (.inl ?_) _) | (with_reducible refine gput ?_ (.inl ?_) _) | (refine gtrans ?_ (by with_reducible assumption)) | omega | (simp; done) | (simp; omega))), by simp, by simp; exact hold (hnew _ _), hnewAt (by simp)⟩
  case round =>
    obtain ⟨k, hk, rfl, hg, hsz, hb, hr⟩ := hrel
    have HR := Lib.hid hr
    clear hr
    by_cases hlt : k < ms.length
    · obtain ⟨rfl, hc0⟩ := HZ.out k hlt
      have hc := gcell hg hc0 (by simp)
      have hx6 := getD_lt ms k hlt H6.out
      have n0 := cntV_snoc ms k hlt _ rfl 0
      have n1 := cntV_snoc ms k hlt _ rfl 1
      have n2 := cntV_snoc ms k hlt _ rfl 2
      have n3 := cntV_snoc ms k hlt _ rfl 3
      have n4 := cntV_snoc ms k hlt _ rfl 4
      have n5 := cntV_snoc ms k hlt _ rfl 5
      have le := fun x => List.count_le_length (a := x) (l := ms.take k)
      have T := step_count (ms.getD k 0) hx6 ((ms.take k).count 0) ((ms.take k).count 1) ((ms.take k).count 2) ((ms.take k).count 3) ((ms.take k).count 4) ((ms.take k).count 5)
        (by have := le 0; simp at this; omega) (by have := le 1; simp at this; omega) (by have := le 2; simp at this; omega) (by have := le 3; simp at this; omega) (by have := le 4; simp at this; omega) (by have := le 5; simp at this; omega) w
      rw [← n0, ← n1, ← n2, ← n3, ← n4, ← n5] at T
      clear n0 n1 n2 n3 n4 n5 le
      generalize (ms.take k).count 0 = c0 at *
      generalize (ms.take k).count 1 = c1 at *
      generalize (ms.take k).count 2 = c2 at *
      generalize (ms.take k).count 3 = c3 at *
      generalize (ms.take k).count 4 = c4 at *
      generalize (ms.take k).count 5 = c5 at *
      generalize ms.getD k 0 = x at *
      have b0 := bcell hb 0
      have b1 := bcell hb 1
      have b2 := bcell hb 2
      have b3 := bcell hb 3
      have b4 := bcell hb 4
      have b5 := bcell hb 5
      simp at b0 b1 b2 b3 b4 b5
      have z := bfroz hb
      have HB := Lib.hid hb
      clear hb hc0
      go_wp2_with fail
      refine Tells.use T (by (repeat' (first | (with_reducible exact World.grownBy.refl _ _) | (with_reducible assumption) | (with_reducible refine galloc ?_ _) | (with_reducible refine gdrewN ?_ _) | (with_reducible refine gdrew ?_) | (with_reducible refine gset ?_ (.inl ?_) _) | (with_reducible refine gput ?_ (.inl ?_) _) | (refine gtrans ?_ (by with_reducible assumption)) | omega | (simp; done) | (simp; omega)))) (fun w2 g_w2 hg => ?_)
      have hgp : wr.grownBy w2 none := by (refine gtrans ?_ hg; (repeat' (first | (with_reducible exact World.grownBy.refl _ _) | (with_reducible assumption) | (with_reducible refine galloc ?_ _) | (with_reducible refine gdrewN ?_ _) | (with_reducible refine gdrew ?_) | (with_reducible refine gset ?_ (.inl ?_) _) | (with_reducible refine gput ?_ (.inl ?_) _) | (refine gtrans ?_ (by with_reducible assumption)) | omega | (simp; done) | (simp; omega))))
      repeat (have := gcell' hgp ‹World.cell? wr _ = some _›; clear ‹World.cell? wr _ = some _›)
      have hz := hg.size
      try simp at hz
      try (refine claimP (p := w.heap.size < w2.heap.size) ?_ (fun _ => ?_); · omega)
      have HB2 := Lib.hid (gblock hgp HB.out (by simp))
      have hsz2 : w.heap.size + 1 < w2.heap.size := by omega
      have HR2 := Lib.hid (gblock hgp HR.out (by simp))
      clear hg hgp hz
      have z := bfroz HB2.out
      go_wp2_with fail
      have e := bset (bset (bset (bset (bset (bset HB2.out 0 (.int .i64 ((ms.take (k + 1)).count 0 : Nat))) 1 (.int .i64 ((ms.take (k + 1)).count 1 : Nat))) 2 (.int .i64 ((ms.take (k + 1)).count 2 : Nat))) 3 (.int .i64 ((ms.take (k + 1)).count 3 : Nat))) 4 (.int .i64 ((ms.take (k + 1)).count 4 : Nat))) 5 (.int .i64 ((ms.take (k + 1)).count 5 : Nat))
      refine ⟨⟨k + 1, by omega, by go_num, by (repeat' (first | (with_reducible exact World.grownBy.refl _ _) | (with_reducible assumption) | (with_reducible refine galloc ?_ _) | (with_reducible refine gdrewN ?_ _) | (with_reducible refine gdrew ?_) | (with_reducible refine gset ?_ (.inl ?_) _) | (with_reducible refine gput ?_ (.inl ?_) _) | (refine gtrans ?_ (by with_reducible assumption)) | omega | (simp; done) | (simp; omega))), by simpa using hsz2, e, hset (hset (hset (hset (hset (hset HR2.out (by simp)) (by simp)) (by simp)) (by simp)) (by simp)) (by simp)⟩, by simp [intOf]; omega⟩
    · obtain rfl : k = ms.length := by omega
      rw [List.take_of_length_le (Nat.le_refl _)] at hb
      have hF : V = cntV ms := HV.out
      unfold cntV at hF
      have b0 := bcell hb 0
      have b1 := bcell hb 1
      have b2 := bcell hb 2
      have b3 := bcell hb 3
      have b4 := bcell hb 4
      have b5 := bcell hb 5
      simp at b0 b1 b2 b3 b4 b5
      have z := bfroz hb
      have HF := Lib.hid hF
      have r0 := bcell HR.out 0
      have r1 := bcell HR.out 1
      have r2 := bcell HR.out 2
      have r3 := bcell HR.out 3
      have r4 := bcell HR.out 4
      have r5 := bcell HR.out 5
      simp at r0 r1 r2 r3 r4 r5
      have zr := bfroz HR.out
      clear hb hF
      go_wp2_with fail
      refine bodyPost_ret (v := V) (by rw [HF.out]; simp [results, Tryd.results52, go_sem, r0, r1, r2, r3, r4, r5]; try rfl) rfl ?_
      exact ⟨by first | rfl | (rw [HF.out]; first | rfl | (simp; done) | (simp; omega)) | (simp; done) | (simp; omega), by (repeat' (first | (with_reducible exact World.grownBy.refl _ _) | (with_reducible assumption) | (with_reducible refine galloc ?_ _) | (with_reducible refine gdrewN ?_ _) | (with_reducible refine gdrew ?_) | (with_reducible refine gset ?_ (.inl ?_) _) | (with_reducible refine gput ?_ (.inl ?_) _) | (refine gtrans ?_ (by with_reducible assumption)) | omega | (simp; done) | (simp; omega)))⟩
end Go.Proofs.YtgcejfcfaaidhaaDoor
