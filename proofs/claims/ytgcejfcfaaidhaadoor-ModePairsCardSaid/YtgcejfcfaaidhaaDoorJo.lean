/- The join of two modes, and of a list of modes. The tables are laid. -/
import Derived.Test.YtgcejfcfaaidhaaDoorFo
set_option linter.unusedSimpArgs false
set_option linter.unusedVariables false
namespace Go.Proofs.YtgcejfcfaaidhaaDoor
open Go.RowKit

/-- The weakest mode that covers both. -/
def joinN (i j : Nat) : Nat := ((List.range 6).find? fun m => decide (i ≤ m) && covB m i && covB m j).getD 5

theorem join_next_f : ∀ i j m : Fin 6, i.1 ≤ m.1 → m.1 ≤ joinN i.1 j.1 → (covB m.1 i.1 && covB m.1 j.1) = false → m.1 + 1 ≤ joinN i.1 j.1 := by decide +kernel
theorem join_stop_f : ∀ i j m : Fin 6, i.1 ≤ m.1 → m.1 ≤ joinN i.1 j.1 → (covB m.1 i.1 && covB m.1 j.1) = true → m.1 = joinN i.1 j.1 := by decide +kernel
theorem join_ge_f : ∀ i j : Fin 6, i.1 ≤ joinN i.1 j.1 ∧ joinN i.1 j.1 < 6 := by decide +kernel
theorem join_next (i : Nat) (hi : i < 6) (j : Nat) (hj : j < 6) (m : Nat) (hm : m < 6) : i ≤ m → m ≤ joinN i j → (covB m i && covB m j) = false → m + 1 ≤ joinN i j := join_next_f ⟨i, hi⟩ ⟨j, hj⟩ ⟨m, hm⟩
theorem join_stop (i : Nat) (hi : i < 6) (j : Nat) (hj : j < 6) (m : Nat) (hm : m < 6) : i ≤ m → m ≤ joinN i j → (covB m i && covB m j) = true → m = joinN i j := join_stop_f ⟨i, hi⟩ ⟨j, hj⟩ ⟨m, hm⟩
theorem join_ge (i : Nat) (hi : i < 6) (j : Nat) (hj : j < 6) : i ≤ joinN i j ∧ joinN i j < 6 := join_ge_f ⟨i, hi⟩ ⟨j, hj⟩

set_option maxRecDepth 100000 in
set_option maxHeartbeats 2000000 in
theorem join_ij (i j : Nat) (hi : i < 6) (hj : j < 6) (w : World) (hT : Tabs w) : Calls Tryd.prog 51 #[.agg #[.int .i64 i, .int .i64 j]] w fun e w' => e = .returned (.int .i64 (joinN i j)) ∧ w.grownBy w' none := by
  have hge := join_ge i hi j hj
  have hl : 2 < w.heap.size := World.block_lt_of_cell? w _ (hT.covers 0 0 (by omega) (by omega))
  go_enter Tryd.func51, Tryd.ntmps51
  go_wp2_with fail
  go_loopw [3] (fun m wr => ∃ k : Nat, i ≤ k ∧ k ≤ joinN i j ∧ m = .int .i64 k ∧ w.grownBy wr none ∧ wr.cell? ⟨w.heap.size, 0, none⟩ = some (.int .i64 i) ∧ wr.cell? ⟨w.heap.size, 1, none⟩ = some (.int .i64 j)) (fun m _ => 6 - (intOf m).toNat)
  case atStart => exact ⟨i, Nat.le_refl _, hge.1, rfl, galloc (World.grownBy.refl _ _) _, by go_simp, by go_simp⟩
  case round =>
    obtain ⟨k, hk, hk2, rfl, hg, c0, c1⟩ := hrel
    have hk6 : k < 6 := by omega
    have t1 := (hT.grown hg).covers k i hk6 hi
    have t2 := (hT.grown hg).covers k j hk6 hj
    have HN := Lib.hid (join_next i hi j hj k hk6 hk hk2)
    have HS := Lib.hid (join_stop i hi j hj k hk6 hk hk2)
    have e1 : (k : Int) < 6 := by omega
    have e2 : (i : Int) < 6 := by omega
    have e3 : (j : Int) < 6 := by omega
    have e4 : (k : Int) + 1 < 7 := by omega
    generalize covB k i = p at t1 HN HS
    generalize covB k j = q at t2 HN HS
    have HT := Lib.hid hT
    have HG := Lib.hid hge
    clear hT hge hk2 hi hj
    cases p
    · go_wp2_with fail
      go_quiet (fail)
      go_wp2_with fail
      refine ⟨⟨k + 1, by omega, HN.out (by simp), by simp, gdrewN hg _, c0, c1⟩, by simp [intOf]; omega⟩
    · cases q
      · go_wp2_with fail
        go_quiet (fail)
        go_wp2_with fail
        refine ⟨⟨k + 1, by omega, HN.out (by simp), by simp, gdrewN hg _, c0, c1⟩, by simp [intOf]; omega⟩
      · go_wp2_with fail
        go_quiet (fail)
        go_wp2_with fail
        go_ret
        exact ⟨congrArg (fun n : Nat => Ending.returned (Value.int .i64 (n : Int))) (HS.out rfl), gdrewN hg _⟩

/-- The join of a list of modes. -/
def joinL (ms : List Nat) : Nat := ms.foldl joinN 0

set_option maxRecDepth 100000 in
set_option maxHeartbeats 400000 in
theorem step_join (i j : Nat) (hi : i < 6) (hj : j < 6) (w : World) (hT : Tabs w) : Calls Tryd.prog 50 #[.int .i64 i, .int .i64 j] w fun e w' => e = .returned (.int .i64 (joinN i j)) ∧ w.grownBy w' none := by
  have J := Lib.hid (join_ij i j hi hj w hT)
  clear hT
  go_enter Tryd.func50, Tryd.ntmps50
  go_wp2_with (go_at_call 51; refine J.out.mono ?_; rintro e w2 ⟨rfl, hg⟩)
  go_ret
  exact ⟨rfl, hg⟩

theorem joinL_lt (ms : List Nat) (h : ∀ m ∈ ms, m < 6) : joinL ms < 6 := by
  have : ∀ (ms : List Nat) (a : Nat), a < 6 → (∀ m ∈ ms, m < 6) → ms.foldl joinN a < 6 := by
    intro ms
    induction ms with
    | nil => intro a ha _; exact ha
    | cons m ms ih =>
      intro a ha hm
      exact ih _ (join_ge a ha m (hm m (by simp))).2 (fun x hx => hm x (by simp [hx]))
  exact this ms 0 (by omega) h
theorem joinL_snoc (ms : List Nat) (k : Nat) (hk : k < ms.length) : joinL (ms.take (k + 1)) = joinN (joinL (ms.take k)) (ms.getD k 0) := by
  unfold joinL
  rw [List.take_succ_eq_append_getElem hk, List.foldl_append]
  simp [List.getD, List.getElem?_eq_getElem hk]

set_option maxRecDepth 100000 in
set_option maxHeartbeats 1000000 in
theorem fold_join (b off cap : Nat) (ao : Option Addr) (ms : List Nat) (w : World) (hT : Tabs w) (hlen : ms.length < 9223372036854775807) (h6 : ∀ m ∈ ms, m < 6)
    (hz : ∀ k, k < ms.length → ao = some ⟨b, off, none⟩ ∧ w.cell? ⟨b, off + k, none⟩ = some (.int .i64 (ms.getD k 0 : Nat))) :
    Calls Tryd.prog 49 #[.int .i64 0, .func (.func 50) #[] #[], .slice ao ms.length cap] w fun e w' => e = .returned (.int .i64 (joinL ms)) ∧ w.grownBy w' none := by
  have HZ := Lib.hid hz
  have HT := Lib.hid hT
  have H6 := Lib.hid h6
  clear hz hT h6
  have hl : (ms.length : Int) < 9223372036854775807 := by omega
  go_enter Tryd.func49, Tryd.ntmps49
  go_wp2_with fail
  go_loopw [0, 11] (fun c i wr => ∃ k : Nat, k ≤ ms.length ∧ i = .int .i64 k ∧ c = .int .i64 (joinL (ms.take k)) ∧ w.grownBy wr none) (fun _ i _ => ms.length - (intOf i).toNat)
  case atStart => exact ⟨0, Nat.zero_le _, rfl, by simp [joinL], World.grownBy.refl _ _⟩
  case round =>
    obtain ⟨k, hk, rfl, rfl, hg⟩ := hrel
    by_cases hlt : k < ms.length
    · obtain ⟨rfl, hc0⟩ := HZ.out k hlt
      have hc := gcell hg hc0 (by simp)
      have ha := joinL_snoc ms k hlt
      have hx : joinL (ms.take k) < 6 := joinL_lt _ (fun m hm => H6.out m (List.mem_of_mem_take hm))
      have hy : ms.getD k 0 < 6 := H6.out _ (by rw [List.getD_eq_getElem?_getD, List.getElem?_eq_getElem hlt]; exact List.getElem_mem hlt)
      generalize ms.getD k 0 = z at *
      generalize joinL (ms.take k) = c at *
      have HA := Lib.hid ha
      have S := Lib.hid (fun W hW => step_join c z hx hy W (HT.out.grown hW))
      clear hc0 ha
      go_wp2_with (go_at_call 50; refine (S.out _ hg).mono ?_; rintro e w2 ⟨rfl, hg2⟩)
      go_roundw
      case rel => exact ⟨k + 1, by omega, by first | rfl | (simp; done) | go_num, by rw [HA.out], gtrans hg hg2⟩
      case measure => simp [intOf]; omega
    · obtain rfl : k = ms.length := by omega
      go_wp2_with fail
      go_ret
      exact ⟨by simp, hg⟩

theorem nats_of (zs : List Int) (h : zs.all isM = true) : ∃ ms : List Nat, zs = ms.map (fun m : Nat => (m : Int)) ∧ ∀ m ∈ ms, m < 6 := by
  refine ⟨zs.map Int.toNat, ?_, ?_⟩
  · rw [List.map_map]
    refine (List.map_id' zs).symm.trans (List.map_congr_left fun z hz => ?_)
    have := List.all_eq_true.1 h z hz
    simp [isM] at this
    simp
    omega
  · intro m hm
    obtain ⟨z, hz, rfl⟩ := List.mem_map.1 hm
    have := List.all_eq_true.1 h z hz
    simp [isM] at this
    omega

set_option maxRecDepth 100000 in
set_option maxHeartbeats 1000000 in
theorem join_bad (b off cap : Nat) (ao : Option Addr) (zs : List Int) (w : World) (hlen : zs.length < 9223372036854775807) (h : zs.all isM = false)
    (hz : ∀ k, k < zs.length → ao = some ⟨b, off, none⟩ ∧ w.cell? ⟨b, off + k, none⟩ = some (.int .i64 (zs.getD k 0))) :
    Calls Tryd.prog 18 #[.slice ao zs.length cap] w fun e w' => e = .returned (.tuple #[.int .i64 0, .int .i64 130]) ∧ w.grownBy w' none := by
  have R := right_all b off cap ao zs w hlen hz
  rw [h] at R
  have R' := Lib.hid R
  clear R hz h
  go_enter Tryd.func18, Tryd.ntmps18
  go_wp2
  refine wp_scope_fwd ?_
  go_wp2_with fail
  refine R'.out.mono ?_
  rintro e w1 ⟨rfl, hg⟩
  go_wp2_with fail
  apply wp_goto
  simp only [Exit.then, Exit.inBlock]
  refine ⟨_, rfl, ?_⟩
  go_wp2_with fail
  rw [Exit.noGoto_ret]
  go_ret2
  exact ⟨rfl, hg⟩

set_option maxRecDepth 100000 in
set_option maxHeartbeats 1000000 in
theorem join_good (b off cap : Nat) (ao : Option Addr) (ms : List Nat) (w : World) (hT : Tabs w) (hlen : ms.length < 9223372036854775807) (h6 : ∀ m ∈ ms, m < 6)
    (hz : ∀ k, k < ms.length → ao = some ⟨b, off, none⟩ ∧ w.cell? ⟨b, off + k, none⟩ = some (.int .i64 (ms.getD k 0 : Nat))) :
    Calls Tryd.prog 18 #[.slice ao ms.length cap] w fun e w' => e = .returned (.tuple #[.int .i64 (joinL ms), .int .i64 0]) ∧ w.grownBy w' none := by
  have hg0 : ∀ k, k < ms.length → (ms.map (fun m : Nat => (m : Int))).getD k 0 = (ms.getD k 0 : Nat) := fun k hk => by
    simp [List.getD, List.getElem?_eq_getElem hk]
  have R := right_all b off cap ao (ms.map (fun m : Nat => (m : Int))) w (by simpa using hlen) (fun k hk => by
    rw [List.length_map] at hk
    rw [hg0 k hk]
    exact hz k hk)
  rw [show (ms.map (fun m : Nat => (m : Int))).all isM = true by
    rw [List.all_eq_true]
    intro z hzm
    obtain ⟨m, hm, rfl⟩ := List.mem_map.1 hzm
    have := h6 m hm
    simp [isM]
    omega, List.length_map] at R
  have F := Lib.hid (fun W (hW : w.grownBy W none) => fold_join b off cap ao ms W (hT.grown hW) hlen h6 (fun k hk => ⟨(hz k hk).1, gcell hW (hz k hk).2 (by simp)⟩))
  have R' := Lib.hid R
  clear R hz h6 hT hg0
  go_enter Tryd.func18, Tryd.ntmps18
  go_wp2
  go_step3
  go_wp2_with fail
  refine R'.out.mono ?_
  rintro e w1 ⟨rfl, hg⟩
  go_wp2_with fail
  refine (F.out _ hg).mono ?_
  rintro e w2 ⟨rfl, hg2⟩
  go_wp2_with fail
  try rw [Exit.noGoto_ret]
  go_ret2
  exact ⟨rfl, gtrans hg hg2⟩
end Go.Proofs.YtgcejfcfaaidhaaDoor
