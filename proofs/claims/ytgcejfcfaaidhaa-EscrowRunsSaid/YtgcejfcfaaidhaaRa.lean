/- The reference's Run tells the counters behind each change that is done, and the last one's error. No condition. -/
import Derived.Test.YtgcejfcfaaidhaaCg
import Derived.Maps.AppendAt
import Derived.Deep.AppendLies
import Derived.Deep.RegionWith
import Derived.Deep.DeepCutAuto
import Derived.WalkKit
set_option linter.unusedSimpArgs false
set_option linter.unusedVariables false
namespace Go.Proofs.Ytgcejfcfaaidhaa.runs
open Go.RowKit Go.Proofs.Ytgcejfcfaaidhaa.refs Go.Proofs.Ytgcejfcfaaidhaa.changes

/-- The cells of the counters behind each change that is done. -/
def sts (f : Int) : Int → Int → List Int → List Value
  | _, _, [] => []
  | v, n, k :: ks => if chE v f n k = 0 then [.int .i64 (v + k), .int .i64 f, .int .u64 (n + 1)] ++ sts f (v + k) (n + 1) ks else []

theorem Try.info24 : (Try.prog.info? 24).map (fun i => (i.zero, i.size, i.bytes)) = some (some (.agg #[.int .i64 0, .int .i64 0, .int .u64 0]), 3, 24) := by kernel_rfl

theorem sts_step (f v n : Int) (zs : List Int) (k : Nat) (hk : k < zs.length) :
    sts f v n (zs.drop k) = if chE v f n (zs.getD k 0) = 0 then [.int .i64 (v + zs.getD k 0), .int .i64 f, .int .u64 (n + 1)] ++ sts f (v + zs.getD k 0) (n + 1) (zs.drop (k + 1)) else [] := by
  rw [List.drop_eq_getElem_cons hk]
  have : zs.getD k 0 = zs[k] := by simp [List.getD, List.getElem?_eq_getElem hk]
  rw [this]
  rfl
theorem gown {a X W : World} {row : Option Nat} (h : a.grownBy X none) (k : X.grownBy W row) (hr : ∀ g, row = some g → a.heap.size ≤ g) : a.grownBy W none := by
  cases row with
  | none => exact gtrans h k
  | some g => exact gnew h k (hr g rfl)
theorem box3 {W : World} {B : Nat} {x y z a b c : Value} {t u : TypeId} {cs : Array Value} (h : W.heap[B]? = some (.cells #[x, y, z] t (0, 0))) :
    ((((W.setCell ⟨B, 0, none⟩ a).setCell ⟨B, 1, none⟩ b).setCell ⟨B, 2, none⟩ c).alloc (.cells cs u)).heap[B]? = some (.cells #[a, b, c] t (0, 0)) :=
  (Below.heap_alloc _ _ B (by have := (Array.getElem?_eq_some_iff.1 h).1; simpa [World.setCell] using this)).trans (bset (bset (bset h 0 a) 1 b) 2 c)
theorem new_at {X : World} {o : Obj} {B : Nat} (h : X.heap.size = B) : (X.alloc o).heap[B]? = some o := h ▸ heap_alloc_new X o

/-- What the list of counters holds at its end. -/
def Last (v f n : Int) (v0 n0 : Int) (k : Nat) (xs : List Value) : Prop :=
  (k = 0 → v = v0 ∧ n = n0) ∧ (0 < k → ∃ ys, xs = ys ++ [.int .i64 v, .int .i64 f, .int .u64 n] ∧ ys.length = 3 * (k - 1))

set_option maxRecDepth 100000 in
set_option maxHeartbeats 4000000 in
theorem run_any (v0 f n0 : Int) (sb so cap : Nat) (ao : Option Addr) (zs : List Int) (w : World) (hB : Bd v0 f n0) (hlen : zs.length ≤ 1000)
    (hsb : sb < w.heap.size ∨ zs = [])
    (hz : ∀ k, k < zs.length → ao = some ⟨sb, so, none⟩ ∧ w.cell? ⟨sb, so + k, none⟩ = some (.int .i64 (zs.getD k 0)) ∧ -9223372036854775808 ≤ zs.getD k 0 ∧ zs.getD k 0 ≤ 9223372036854775807) :
    Calls Try.prog 21 #[.agg #[.int .i64 v0, .int .i64 f, .int .u64 n0], .slice ao zs.length cap] w fun e w' => ∃ (vo : Value) (k : Nat) (v n : Int) (xs : List Value) (er : Int),
      e = .returned (.tuple #[vo, .int .i64 er]) ∧ w.grownBy w' none ∧ w'.ownsRow (w.heap.size + 1) 24 3 vo k xs ∧ runS f v0 n0 0 zs = (v, n, (k : Int), er) ∧ Last v f n v0 n0 k xs ∧ xs = sts f v0 n0 zs := by
  have HZ := Lib.hid hz
  clear hz
  obtain ⟨i0, hi, hz0, hz1, hz2⟩ := info_parts Try.info24
  go_enter Try.func21, Try.ntmps21
  go_wp2_with fail
  go_loopw [6, 7] (fun vo i wr => ∃ (k : Nat) (v n : Int) (xs : List Value), k ≤ zs.length ∧ i = .int .i64 k ∧ Bd v f n ∧ w.grownBy wr none ∧ w.heap.size + 1 ≤ wr.heap.size ∧ wr.ownsRow (w.heap.size + 1) 24 3 vo k xs ∧
      wr.heap[w.heap.size]? = some (.cells #[.int .i64 v, .int .i64 f, .int .u64 n] 24 (0, 0)) ∧
      runS f v0 n0 0 zs = runS f v n k (zs.drop k) ∧ Last v f n v0 n0 k xs ∧ sts f v0 n0 zs = xs ++ sts f v n (zs.drop k))
    (fun _ i _ => zs.length - (intOf i).toNat)
  case atStart => exact ⟨0, v0, n0, [], Nat.zero_le _, rfl, hB, galloc (World.grownBy.refl _ _) _, by simp, World.ownsRow_nil _ _ _ _, heap_alloc_new w _, by simp, ⟨fun _ => ⟨rfl, rfl⟩, fun h => absurd h (by omega)⟩, by simp⟩
  case round =>
    obtain ⟨k, v, n, xs, hk, rfl, hBk, hg, hs, hown, hbox, hrun, hlast, hsts⟩ := hrel
    have HR := Lib.hid hrun
    have HL := Lib.hid hlast
    have HS := Lib.hid hsts
    clear hrun hlast hsts
    by_cases hlt : k < zs.length
    · obtain ⟨rfl, hc0, z0, z1⟩ := HZ.out k hlt
      have hsbl : sb < w.heap.size := hsb.resolve_right (by rintro rfl; simp at hlt)
      have hc := gcell hg hc0 (by simp)
      have c0 : wr.cell? ⟨w.heap.size, 0, none⟩ = some (.int .i64 v) := by rw [cell_of_row _ _ _ _ _ _ hbox]; rfl
      have c1 : wr.cell? ⟨w.heap.size, 1, none⟩ = some (.int .i64 f) := by rw [cell_of_row _ _ _ _ _ _ hbox]; rfl
      have c2 : wr.cell? ⟨w.heap.size, 2, none⟩ = some (.int .u64 n) := by rw [cell_of_row _ _ _ _ _ _ hbox]; rfl
      clear hc0
      have l1 : sb < wr.heap.size := by omega
      have l2 : w.heap.size < wr.heap.size := by omega
      have l3 : sb < wr.heap.size + 1 := by omega
      have l4 : w.heap.size < wr.heap.size + 1 := by omega
      have HO := Lib.hid hown
      have HB := Lib.hid hbox
      generalize hzk : zs.getD k 0 = z at *
      clear hown hbox
      obtain ⟨a, b, c, E, hE, ha, C0⟩ : ∃ a b c E : Int, E = chE v f n z ∧ (E = 0 → v + z = a ∧ f = b ∧ n + 1 = c) ∧ ∀ W, Calls Try.prog 13 #[.agg #[.int .i64 v, .int .i64 f, .int .u64 n], .int .i64 z] W fun e w' => e = .returned (.tuple #[.agg #[.int .i64 a, .int .i64 b, .int .u64 c], .int .i64 E]) ∧ W.grownBy w' none :=
        ⟨_, _, _, _, rfl, fun h => by simp [h], fun W => refChange v f n z W hBk z0 z1⟩
      have C := Lib.hid C0
      have HE := Lib.hid hE
      have HA := Lib.hid ha
      clear C0 hE ha
      go_upto_region 5 with fail
      go_cut [8, 9] (fun s8 s9 wx => ∃ b8 : Nat, s8 = .pointer (some ⟨b8, 0, none⟩) ∧ s9 = .int .i64 E ∧ wr.grownBy wx none ∧ wr.heap.size ≤ b8 ∧ b8 < wx.heap.size ∧ wx.cell? ⟨b8, 0, none⟩ = some (.int .i64 a) ∧ wx.cell? ⟨b8, 1, none⟩ = some (.int .i64 b) ∧ wx.cell? ⟨b8, 2, none⟩ = some (.int .u64 c))
      case first =>
        go_region_with (go_at_call 13; refine (C.out _).mono ?_; rintro e w1 ⟨rfl, hg1⟩; have q0 := fun h => gcell (b := wr.heap.size) (o := 0) (v := .int .i64 0) hg1 h (by simp); have qz0 := fun h => gfroz (b := wr.heap.size) (o := 0) (v := .int .i64 0) hg1 h (by simp); have q1 := fun h => gcell (b := wr.heap.size) (o := 1) (v := .int .i64 0) hg1 h (by simp); have qz1 := fun h => gfroz (b := wr.heap.size) (o := 1) (v := .int .i64 0) hg1 h (by simp); have q2 := fun h => gcell (b := wr.heap.size) (o := 2) (v := .int .u64 0) hg1 h (by simp); have qz2 := fun h => gfroz (b := wr.heap.size) (o := 2) (v := .int .u64 0) hg1 h (by simp))
        all_goals (have hl1 := hg1.size; (try simp at hl1); (try simp [go_sem] at q0); (try simp [go_sem] at q1); (try simp [go_sem] at q2); (try simp [go_sem] at qz0); (try simp [go_sem] at qz1); (try simp [go_sem] at qz2); go_wp2_with fail; go_meet)
        all_goals (case rel =>
          refine ⟨_, rfl, rfl, ?_, ?_, ?_, ?_, ?_, ?_⟩
          · (repeat' (first | (with_reducible exact World.grownBy.refl _ _) | (with_reducible assumption) | (with_reducible refine galloc ?_ _) | (with_reducible refine gdrewN ?_ _) | (with_reducible refine gdrew ?_) | (with_reducible refine gset ?_ (.inl (by first | (simp; done) | (simp; omega) | omega)) _) | (refine gtrans ?_ hg1)))
          · first | omega | (simp; done) | (simp; omega)
          · first | omega | (simp; done) | (simp; omega)
          · go_simp
          · go_simp
          · go_simp)
      case rest =>
        obtain ⟨b8, rfl, rfl, hgw, hb8, hb8', d0, d1, d2⟩ := hcut
        have hbw := gblock hgw HB.out (by simp)
        have how : wc.ownsRow (w.heap.size + 1) 24 3 u6 k xs := HO.out.kept hgw (by cases h : u6.ownBlock <;> simp)
        have e0 : wc.cell? ⟨w.heap.size, 0, none⟩ = some (.int .i64 v) := by rw [cell_of_row _ _ _ _ _ _ hbw]; rfl
        have e1 : wc.cell? ⟨w.heap.size, 1, none⟩ = some (.int .i64 f) := by rw [cell_of_row _ _ _ _ _ _ hbw]; rfl
        have e2 : wc.cell? ⟨w.heap.size, 2, none⟩ = some (.int .u64 n) := by rw [cell_of_row _ _ _ _ _ _ hbw]; rfl
        have ez : ∀ o, wc.frozen? ⟨w.heap.size, o, none⟩ = false := fun o => by simp [World.frozen?, hbw]
        have gwc := gtrans hg hgw
        have sw : w.heap.size + 1 < wc.heap.size + 1 := by omega
        have hne : b8 ≠ w.heap.size := by omega
        clear hg hgw c0 c1 c2 hc
        by_cases h0 : E = 0
        · obtain ⟨rfl, rfl, rfl⟩ := HA.out h0
          have hE0 := HE.out
          rw [h0] at hE0
          have HE0 := Lib.hid hE0
          subst h0
          clear HE HA hE0
          have HBW := Lib.hid hbw
          have HOW := Lib.hid how
          clear hbw how
          go_wp2_with
            (at_builtin
             refine wpList_append_own_at _ rfl _ _ 41 rfl (w.heap.size + 1) 24 i0 (.agg #[.int .i64 0, .int .i64 0, .int .u64 0]) 3 24 Try.underlying41 hi hz0 hz1 hz2 rfl (by decide) u6 k xs rfl ?_ ⟨_, 0, none⟩ 1 1 [.int .i64 (v + z), .int .i64 f, .int .u64 (n + 1)] rfl rfl ?_ ?_ ?_ ?_ ?_ ?_
             · have H := HOW.out
               repeat' (first | (with_reducible exact H) | (with_reducible refine World.ownsRow.alloc ?_ _) | (with_reducible refine ownsRow_setCell_below ?_ ?_ _))
               all_goals simp
             · exact World.news_of_block (cs := #[.int .i64 (v + z), .int .i64 f, .int .u64 (n + 1)]) (t := 24) (fr := (0, 0)) (new_at (by simp))
             · intro u hu
               simp at hu
               rcases hu with rfl | rfl | rfl <;> rfl
             · unfold maxLen
               omega
             · omega
             · simp
               omega
             intro v1 w2 hown2 hg2 hnil2 hloc2)
          have HN := Lib.hid hown2
          clear hown2 hnil2 hloc2
          have hob : ∀ g, u6.ownBlock = some g → w.heap.size + 1 ≤ g := fun g hg => (HOW.out.lt g hg).1
          have hst := runS_step f v n k zs k hlt
          have hss := sts_step f v n zs k hlt
          rw [hzk, if_pos HE0.out.symm] at hst hss
          refine ⟨⟨k + 1, v + z, n + 1, xs ++ [.int .i64 (v + z), .int .i64 f, .int .u64 (n + 1)], by omega, by simp, hBk.step z0 z1 HE0.out.symm, ?_, ?_, HN.out, ?_, ?_, ⟨fun h => absurd h (by omega), fun _ => ⟨xs, rfl, ?_⟩⟩, ?_⟩, by simp [intOf]; omega⟩
          · refine gown ?_ hg2 (fun g hg => Nat.le_of_succ_le (hob g hg))
            (repeat' (first | (with_reducible exact World.grownBy.refl _ _) | (with_reducible assumption) | (with_reducible refine galloc ?_ _) | (with_reducible refine gdrewN ?_ _) | (with_reducible refine gset ?_ (.inl (by simp)) _)))
          · have := hg2.size
            simp at this
            omega
          · refine gblock hg2 ?_ (fun h => by have := hob _ h.symm; omega)
            exact box3 HBW.out
          · rw [HR.out, hst]
            simp
          · have := HOW.out.1
            simp
            omega
          · rw [HS.out, hss]
            simp
        · go_wp2_with fail
          have hst := runS_step f v n k zs k hlt
          have hss := sts_step f v n zs k hlt
          rw [hzk, ← HE.out, if_neg h0] at hst hss
          refine bodyPost_ret (v := .tuple #[u6, .int .i64 E]) (by simp [results, Try.results21, go_sem]) rfl ?_
          exact ⟨u6, k, v, n, xs, E, rfl, gwc, how, by rw [HR.out, hst], HL.out, by rw [HS.out, hss]; simp⟩
    · obtain rfl : k = zs.length := by omega
      go_wp2_with fail
      rename_i vo _
      refine bodyPost_ret (v := .tuple #[_, .int .i64 0]) (by simp [results, Try.results21, go_sem]; rfl) rfl ?_
      exact ⟨_, zs.length, v, n, xs, 0, rfl, hg, hown, by rw [HR.out]; simp [runS], HL.out, by rw [HS.out]; simp [sts]⟩
end Go.Proofs.Ytgcejfcfaaidhaa.runs
