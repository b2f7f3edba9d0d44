/- The reference's All, Name, Parse, Together and Join. No condition. -/
import Derived.Test.YtgcejfcfaaidhaaDoorRf
import Derived.Test.YtgcejfcfaaidhaaDoorLib4
set_option linter.unusedSimpArgs false
set_option linter.unusedVariables false
namespace Go.Proofs.YtgcejfcfaaidhaaDoor.ref
open Go.RowKit

/-- A list of numbers that lies in memory, from the w on. -/
structure Row (w : World) (ao : Option Addr) (zs : List Int) : Prop where
  at' : ∃ b off, ∀ k, k < zs.length → ao = some ⟨b, off, none⟩ ∧ w.cell? ⟨b, off + k, none⟩ = some (.int .i64 (zs.getD k 0))
theorem Row.grown {w W : World} {ao : Option Addr} {zs : List Int} (h : Row w ao zs) (hg : w.grownBy W none) : Row W ao zs :=
  ⟨let ⟨b, off, h⟩ := h.at'; ⟨b, off, fun k hk => ⟨(h k hk).1, gcell hg (h k hk).2 (by simp)⟩⟩⟩

theorem rightT (a : Int) (w : World) : Tells Tryd.prog w 14 #[.int .i64 a] (.bool (isM a)) := .pure (right a)

set_option maxRecDepth 100000 in
set_option maxHeartbeats 1000000 in
theorem all (ao : Option Addr) (cap : Nat) (zs : List Int) (w : World) (hlen : zs.length < 9223372036854775807) (hz : Row w ao zs) :
    Tells Tryd.prog w 20 #[.slice ao zs.length cap] (.bool (zs.all isM)) := by
  refine .of fun w hw => ?_
  have hz := hz.grown hw
  clear hw
  obtain ⟨b, off, hz⟩ := hz.at'
  have HZ := Lib.hid hz
  clear hz
  have hl : (zs.length : Int) < 9223372036854775807 := by omega
  have R := fun a => rightT a w
  go_enter Tryd.func20, Tryd.ntmps20
  go_wp2_with fail
  go_loopw [3] (fun i wr => ∃ k : Nat, k ≤ zs.length ∧ i = .int .i64 k ∧ (zs.take k).all isM = true ∧ w.grownBy wr none) (fun i _ => zs.length - (intOf i).toNat)
  case atStart => exact ⟨0, Nat.zero_le _, rfl, by simp, World.grownBy.refl _ _⟩
  case round =>
    obtain ⟨k, hk, rfl, hall, hg⟩ := hrel
    by_cases hlt : k < zs.length
    · obtain ⟨rfl, hc0⟩ := HZ.out k hlt
      have hc := gcell hg hc0 (by simp)
      have ha := all_snoc zs k hlt
      have T := R (zs.getD k 0)
      generalize zs.getD k 0 = z at *
      rw [hall, Bool.true_and] at ha
      have HG := hg
      cases hm : isM z
      · have hf : zs.all isM = false := by
          rw [hm] at ha
          rw [Bool.eq_false_iff]
          intro h
          rw [List.all_eq_true] at h
          have : (zs.take (k + 1)).all isM = true := by
            rw [List.all_eq_true]; exact fun x hx => h x (List.mem_of_mem_take hx)
          rw [this] at ha
          cases ha
        rw [hm] at T
        have HF := Lib.hid hf
        clear hc0 ha hall hf hm
        go_wp2_with fail
        refine Tells.use T (by (repeat' (first | (with_reducible exact World.grownBy.refl _ _) | (with_reducible assumption) | (with_reducible refine galloc ?_ _) | (with_reducible refine gdrewN ?_ _) | (with_reducible refine gdrew ?_) | (with_reducible refine gset ?_ (.inl ?_) _) | (with_reducible refine gput ?_ (.inl ?_) _) | (refine gtrans ?_ (by with_reducible assumption)) | omega | (simp; done) | (simp; omega)))) (fun w2 g_w2 hg => ?_)
        have hgp : wr.grownBy w2 none := by (refine gtrans ?_ hg; (repeat' (first | (with_reducible exact World.grownBy.refl _ _) | (with_reducible assumption) | (with_reducible refine galloc ?_ _) | (with_reducible refine gdrewN ?_ _) | (with_reducible refine gdrew ?_) | (with_reducible refine gset ?_ (.inl ?_) _) | (with_reducible refine gput ?_ (.inl ?_) _) | (refine gtrans ?_ (by with_reducible assumption)) | omega | (simp; done) | (simp; omega))))
        repeat (have := gcell' hgp ‹World.cell? wr _ = some _›; clear ‹World.cell? wr _ = some _›)
        have hz := hg.size
        try simp at hz
        try (refine claimP (p := w.heap.size < w2.heap.size) ?_ (fun _ => ?_); · omega)
        clear hg hgp hz
        go_wp2_with fail
        go_ret
        exact ⟨by first | rfl | (rw [HF.out]; first | rfl | (simp; done) | (simp; omega)) | (simp; done) | (simp; omega), by (repeat' (first | (with_reducible exact World.grownBy.refl _ _) | (with_reducible assumption) | (with_reducible refine galloc ?_ _) | (with_reducible refine gdrewN ?_ _) | (with_reducible refine gdrew ?_) | (with_reducible refine gset ?_ (.inl ?_) _) | (with_reducible refine gput ?_ (.inl ?_) _) | (refine gtrans ?_ (by with_reducible assumption)) | omega | (simp; done) | (simp; omega)))⟩
      · rw [hm] at T
        rw [hm] at ha
        have HA := Lib.hid ha
        clear hc0 ha hall hm
        go_wp2_with fail
        refine Tells.use T (by (repeat' (first | (with_reducible exact World.grownBy.refl _ _) | (with_reducible assumption) | (with_reducible refine galloc ?_ _) | (with_reducible refine gdrewN ?_ _) | (with_reducible refine gdrew ?_) | (with_reducible refine gset ?_ (.inl ?_) _) | (with_reducible refine gput ?_ (.inl ?_) _) | (refine gtrans ?_ (by with_reducible assumption)) | omega | (simp; done) | (simp; omega)))) (fun w2 g_w2 hg => ?_)
        have hgp : wr.grownBy w2 none := by (refine gtrans ?_ hg; (repeat' (first | (with_reducible exact World.grownBy.refl _ _) | (with_reducible assumption) | (with_reducible refine galloc ?_ _) | (with_reducible refine gdrewN ?_ _) | (with_reducible refine gdrew ?_) | (with_reducible refine gset ?_ (.inl ?_) _) | (with_reducible refine gput ?_ (.inl ?_) _) | (refine gtrans ?_ (by with_reducible assumption)) | omega | (simp; done) | (simp; omega))))
        repeat (have := gcell' hgp ‹World.cell? wr _ = some _›; clear ‹World.cell? wr _ = some _›)
        have hz := hg.size
        try simp at hz
        try (refine claimP (p := w.heap.size < w2.heap.size) ?_ (fun _ => ?_); · omega)
        clear hg hgp hz
        go_wp2_with fail
        refine ⟨⟨k + 1, by omega, by go_num, HA.out, by (repeat' (first | (with_reducible exact World.grownBy.refl _ _) | (with_reducible assumption) | (with_reducible refine galloc ?_ _) | (with_reducible refine gdrewN ?_ _) | (with_reducible refine gdrew ?_) | (with_reducible refine gset ?_ (.inl ?_) _) | (with_reducible refine gput ?_ (.inl ?_) _) | (refine gtrans ?_ (by with_reducible assumption)) | omega | (simp; done) | (simp; omega)))⟩, by simp [intOf]; omega⟩
    · obtain rfl : k = zs.length := by omega
      rw [List.take_of_length_le (Nat.le_refl _)] at hall
      have HF := Lib.hid hall
      clear hall
      go_wp2_with fail
      go_ret
      exact ⟨by first | rfl | (rw [HF.out]; first | rfl | (simp; done) | (simp; omega)) | (simp; done) | (simp; omega), by (repeat' (first | (with_reducible exact World.grownBy.refl _ _) | (with_reducible assumption) | (with_reducible refine galloc ?_ _) | (with_reducible refine gdrewN ?_ _) | (with_reducible refine gdrew ?_) | (with_reducible refine gset ?_ (.inl ?_) _) | (with_reducible refine gput ?_ (.inl ?_) _) | (refine gtrans ?_ (by with_reducible assumption)) | omega | (simp; done) | (simp; omega)))⟩

set_option maxRecDepth 100000 in
set_option maxHeartbeats 4000000 in
theorem name (i : Nat) (hi : i < 6) (w : World) : Tells Tryd.prog w 30 #[.int .i64 i] (nameV i) := by
  refine .pure fun w => ?_
  have hi' : i = 0 ∨ i = 1 ∨ i = 2 ∨ i = 3 ∨ i = 4 ∨ i = 5 := by omega
  rcases hi' with rfl | rfl | rfl | rfl | rfl | rfl
  all_goals
    go_enter Tryd.func30, Tryd.ntmps30
    go_wp2
    go_ret
    exact ⟨rfl, World.grownBy.refl _ _⟩

theorem name_eq (i j : Nat) (hi : i < 6) (hj : j < 6) : (nameV i = nameV j) → i = j := by
  have : ∀ i j : Fin 6, namT.getD i.1 [] = namT.getD j.1 [] → i = j := by decide
  intro h
  have h2 : namT.getD i [] = namT.getD j [] := by
    unfold nameV at h
    have := congrArg (fun v => match v with | .string b => b.data.toList | _ => []) h
    simpa using this
  have := this ⟨i, hi⟩ ⟨j, hj⟩ h2
  simpa using this

/-- Which mode a name is of; 6: of none. -/
def modeOf (s : List UInt8) : Nat := ((List.range 6).find? fun m => namT.getD m [] == s).getD 6
theorem modeOf_le (s : List UInt8) : modeOf s ≤ 6 := by
  unfold modeOf
  cases h : (List.range 6).find? fun m => namT.getD m [] == s
  · simp
  · have := List.mem_of_find?_eq_some h
    simp at this
    simp; omega
end Go.Proofs.YtgcejfcfaaidhaaDoor.ref
