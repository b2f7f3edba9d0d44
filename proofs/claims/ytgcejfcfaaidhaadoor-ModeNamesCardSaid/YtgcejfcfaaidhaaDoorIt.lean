/- The iterator over the modes. The tables are laid. -/
import Derived.Test.YtgcejfcfaaidhaaDoorTh
import Derived.Test.YtgcejfcfaaidhaaDoorLib5
set_option linter.unusedSimpArgs false
set_option linter.unusedVariables false
namespace Go.Proofs.YtgcejfcfaaidhaaDoor
open Go.RowKit ref
attribute [local go_sem] Oper.semAt_some

def modeL : List (Array Value) := (List.range 6).map fun i => #[.int .i64 (i : Nat), nameV i]
theorem modeL_at (i : Nat) (hi : i < 6) : modeL[i]? = some #[.int .i64 (i : Nat), nameV i] := by
  simp [modeL, hi]

@[local go_sem] theorem ix0 (x0 x1 x2 x3 x4 x5 : Value) (w : World) : (Instr.index 85 (.agg #[x0, x1, x2, x3, x4, x5]) (.int .i64 0)).run Tryd.prog w = .ok x0 w := by kernel_rfl
@[local go_sem] theorem ix1 (x0 x1 x2 x3 x4 x5 : Value) (w : World) : (Instr.index 85 (.agg #[x0, x1, x2, x3, x4, x5]) (.int .i64 1)).run Tryd.prog w = .ok x1 w := by kernel_rfl
@[local go_sem] theorem ix2 (x0 x1 x2 x3 x4 x5 : Value) (w : World) : (Instr.index 85 (.agg #[x0, x1, x2, x3, x4, x5]) (.int .i64 2)).run Tryd.prog w = .ok x2 w := by kernel_rfl
@[local go_sem] theorem ix3 (x0 x1 x2 x3 x4 x5 : Value) (w : World) : (Instr.index 85 (.agg #[x0, x1, x2, x3, x4, x5]) (.int .i64 3)).run Tryd.prog w = .ok x3 w := by kernel_rfl
@[local go_sem] theorem ix4 (x0 x1 x2 x3 x4 x5 : Value) (w : World) : (Instr.index 85 (.agg #[x0, x1, x2, x3, x4, x5]) (.int .i64 4)).run Tryd.prog w = .ok x4 w := by kernel_rfl
@[local go_sem] theorem ix5 (x0 x1 x2 x3 x4 x5 : Value) (w : World) : (Instr.index 85 (.agg #[x0, x1, x2, x3, x4, x5]) (.int .i64 5)).run Tryd.prog w = .ok x5 w := by kernel_rfl
set_option maxRecDepth 100000 in
set_option maxHeartbeats 4000000 in
theorem each (w : World) (hT : TabN w) : Iter Tryd.prog (fun k => k = 1) w 55 #[] modeL := by
  intro W l S Inv Stop hF hS hgr hst h0 hgo
  have hT : TabN W := fun i hi => (World.cell?_of_block (hF 1 rfl)).trans (hT i hi)
  have t0 := hT 0 (by omega)
  have t1 := hT 1 (by omega)
  have t2 := hT 2 (by omega)
  have t3 := hT 3 (by omega)
  have t4 := hT 4 (by omega)
  have t5 := hT 5 (by omega)
  have hgo' := fun i X (hi : i < 6) => hgo i _ X (modeL_at i hi)
  have HGR := Lib.hid hgr
  have HG := Lib.hid hgo'
  have HT := Lib.hid hT
  have h1 : 1 ∉ S := fun h => (hS 1 h).2 rfl
  have hlen : modeL.length = 6 := rfl
  rw [hlen]
  clear hgo hgo' hT hgr hF hlen
  refine callsIn_of_wp Tryd.func55 rfl trivial ?_ rfl
  simp only [Tryd.ntmps55, List.size_toArray, List.length_cons, List.length_nil, Nat.reduceAdd, Nat.reduceSub, Array.replicate_succ, Array.replicate_zero, List.push_toArray, List.append_toArray, List.nil_append, List.cons_append]
  gi_wp2_with fail
  gi_loopw [5] (fun i wr => ∃ k : Nat, k ≤ 6 ∧ i = .int .i64 k ∧ Inv k wr ∧ Oth S W wr) (fun i wr => 6 - (intOf i).toNat)
  case atStart => exact ⟨0, by omega, rfl, h0, Oth.refl _ _⟩
  case round =>
    obtain ⟨k, hk, rfl, hi, hO⟩ := hrel
    by_cases hlt : k < 6
    · have hk6 : (k : Int) < 6 := by omega
      have hy := HG.out k wr hlt hi
      obtain ⟨ik, hik⟩ : ∃ ik : Int, ik = k := ⟨_, rfl⟩
      rw [← hik] at hy
      have hk' : (k = 0 ∧ ik = 0) ∨ (k = 1 ∧ ik = 1) ∨ (k = 2 ∧ ik = 2) ∨ (k = 3 ∧ ik = 3) ∨ (k = 4 ∧ ik = 4) ∨ (k = 5 ∧ ik = 5) := by omega
      clear hik
      rcases hk' with ⟨rfl, rfl⟩ | ⟨rfl, rfl⟩ | ⟨rfl, rfl⟩ | ⟨rfl, rfl⟩ | ⟨rfl, rfl⟩ | ⟨rfl, rfl⟩
      all_goals
        obtain ⟨fn, tmps, assign, body, hy, hR⟩ := hy
        gi_wp2
        refine ⟨rfl, ?_⟩
        refine hR.mono ?_
        rintro e w2 ⟨hO2, (⟨rfl, hi2⟩ | ⟨rfl, hs2⟩)⟩
        · clear hy hR
          gi_wp2
          refine ⟨⟨_, hlt, by first | rfl | go_num, hi2, hO.trans hO2⟩, by first | (simp [intOf]; done) | (simp [intOf]; omega)⟩
        · clear hy hR
          gi_wp2
          go_returns
          exact ⟨⟨_, rfl⟩, hO.trans hO2, .inr hs2⟩
    · obtain rfl : k = 6 := by omega
      gi_wp2_with fail
      go_end0
      exact ⟨⟨_, rfl⟩, hO, .inl hi⟩
end Go.Proofs.YtgcejfcfaaidhaaDoor
