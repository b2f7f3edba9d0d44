/- All are modes: what right and Check tell. No condition. -/
import Derived.Test.YtgcejfcfaaidhaaDoorPr
set_option linter.unusedSimpArgs false
set_option linter.unusedVariables false
namespace Go.Proofs.YtgcejfcfaaidhaaDoor
open Go.RowKit

set_option maxRecDepth 100000 in
set_option maxHeartbeats 400000 in
theorem step_right (c : Bool) (a : Int) (w : World) : Calls Tryd.prog 68 #[.bool c, .int .i64 a] w fun e w' => e = .returned (.bool (c && isM a)) ∧ w.grownBy w' none := by
  have R := Lib.hid right_any
  cases c
  · go_enter Tryd.func68, Tryd.ntmps68
    go_wp2_with fail
    go_ret
    exact ⟨rfl, World.grownBy.refl _ _⟩
  · go_enter Tryd.func68, Tryd.ntmps68
    go_wp2_with (go_at_call 69; refine (R.out _ _).mono ?_; rintro e w2 ⟨rfl, hg⟩)
    go_ret
    exact ⟨by simp, hg⟩

theorem all_snoc (zs : List Int) (k : Nat) (hk : k < zs.length) : (zs.take (k + 1)).all isM = ((zs.take k).all isM && isM (zs.getD k 0)) := by
  rw [List.take_succ_eq_append_getElem hk, List.all_append]
  simp [List.getD, List.getElem?_eq_getElem hk]

set_option maxRecDepth 100000 in
set_option maxHeartbeats 1000000 in
theorem fold_right (b off cap : Nat) (ao : Option Addr) (zs : List Int) (w : World) (hlen : zs.length < 9223372036854775807)
    (hz : ∀ k, k < zs.length → ao = some ⟨b, off, none⟩ ∧ w.cell? ⟨b, off + k, none⟩ = some (.int .i64 (zs.getD k 0))) :
    Calls Tryd.prog 67 #[.bool true, .func (.func 68) #[] #[], .slice ao zs.length cap] w fun e w' => e = .returned (.bool (zs.all isM)) ∧ w.grownBy w' none := by
  have S := Lib.hid step_right
  have HZ := Lib.hid hz
  clear hz
  have hl : (zs.length : Int) < 9223372036854775807 := by omega
  go_enter Tryd.func67, Tryd.ntmps67
  go_wp2_with fail
  go_loopw [0, 11] (fun c i wr => ∃ k : Nat, k ≤ zs.length ∧ i = .int .i64 k ∧ c = .bool ((zs.take k).all isM) ∧ w.grownBy wr none) (fun _ i _ => zs.length - (intOf i).toNat)
  case atStart => exact ⟨0, Nat.zero_le _, rfl, by simp, World.grownBy.refl _ _⟩
  case round =>
    obtain ⟨k, hk, rfl, rfl, hg⟩ := hrel
    by_cases hlt : k < zs.length
    · obtain ⟨rfl, hc0⟩ := HZ.out k hlt
      have hc := gcell hg hc0 (by simp)
      have ha := all_snoc zs k hlt
      generalize zs.getD k 0 = z at *
      generalize (zs.take k).all isM = c at *
      have HA := Lib.hid ha
      clear hc0 ha
      go_wp2_with (go_at_call 68; refine (S.out _ _ _).mono ?_; rintro e w2 ⟨rfl, hg2⟩)
      go_roundw
      case rel => exact ⟨k + 1, by omega, by first | rfl | (simp; done) | go_num, by rw [HA.out], gtrans hg hg2⟩
      case measure => simp [intOf]; omega
    · obtain rfl : k = zs.length := by omega
      go_wp2_with fail
      go_ret
      exact ⟨by simp, hg⟩

set_option maxRecDepth 100000 in
set_option maxHeartbeats 400000 in
theorem right_all (b off cap : Nat) (ao : Option Addr) (zs : List Int) (w : World) (hlen : zs.length < 9223372036854775807)
    (hz : ∀ k, k < zs.length → ao = some ⟨b, off, none⟩ ∧ w.cell? ⟨b, off + k, none⟩ = some (.int .i64 (zs.getD k 0))) :
    Calls Tryd.prog 48 #[.slice ao zs.length cap] w fun e w' => e = .returned (.bool (zs.all isM)) ∧ w.grownBy w' none := by
  have F := Lib.hid (fold_right b off cap ao zs w hlen hz)
  clear hz
  go_enter Tryd.func48, Tryd.ntmps48
  go_wp2_with (go_at_call 67; refine F.out.mono ?_; rintro e w2 ⟨rfl, hg⟩)
  go_ret
  exact ⟨rfl, hg⟩

set_option maxRecDepth 100000 in
set_option maxHeartbeats 400000 in
theorem check_any (a : Int) (w : World) : Calls Tryd.prog 13 #[.int .i64 a] w fun e w' => e = .returned (.int .i64 (if isM a then 0 else 130)) ∧ w.grownBy w' none := by
  have F0 : ∀ W : World, W.cell? ⟨w.heap.size, 0, none⟩ = some (.int .i64 a) → Calls Tryd.prog 48 #[.slice (some ⟨w.heap.size, 0, none⟩) 1 1] W fun e w' => e = .returned (.bool (isM a)) ∧ W.grownBy w' none := fun W hW => by
    have := right_all w.heap.size 0 1 (some ⟨w.heap.size, 0, none⟩) [a] W (by simp) (fun k hk => by
      have : k = 0 := by simp at hk; exact hk
      subst this
      exact ⟨rfl, hW⟩)
    simpa using this
  cases h : isM a
  · rw [h] at F0
    have F := Lib.hid F0
    clear F0 h
    go_enter Tryd.func13, Tryd.ntmps13
    go_wp2_with fail
    refine (F.out _ (by go_simp)).mono ?_
    rintro e w2 ⟨rfl, hg⟩
    go_wp2_with fail
    go_ret
    exact ⟨rfl, gtrans (galloc (World.grownBy.refl _ _) _) hg⟩
  · rw [h] at F0
    have F := Lib.hid F0
    clear F0 h
    go_enter Tryd.func13, Tryd.ntmps13
    go_wp2_with fail
    refine (F.out _ (by go_simp)).mono ?_
    rintro e w2 ⟨rfl, hg⟩
    go_wp2_with fail
    go_ret
    exact ⟨rfl, gtrans (galloc (World.grownBy.refl _ _) _) hg⟩
end Go.Proofs.YtgcejfcfaaidhaaDoor
