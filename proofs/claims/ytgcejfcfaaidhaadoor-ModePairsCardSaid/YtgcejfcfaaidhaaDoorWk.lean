/- The works of the mode laws. The tables are laid. -/
import Derived.Test.YtgcejfcfaaidhaaDoorPa
set_option linter.unusedSimpArgs false
set_option linter.unusedVariables false
namespace Go.Proofs.YtgcejfcfaaidhaaDoor
open Go.RowKit ref

theorem numT (x : Int) (w : World) : Tells Tryd.prog w 12 #[.int .i64 x] (.int .i64 x) := by
  refine .pure fun w => ?_
  go_enter Tryd.func12, Tryd.ntmps12
  go_wp2
  go_ret
  exact ⟨by first | rfl | (simp; done) | (simp; omega), by (repeat' (first | (with_reducible exact World.grownBy.refl _ _) | (with_reducible assumption) | (with_reducible refine galloc ?_ _) | (with_reducible refine gdrewN ?_ _) | (with_reducible refine gdrew ?_) | (with_reducible refine gset ?_ (.inl ?_) _) | (with_reducible refine gput ?_ (.inl ?_) _) | (refine gtrans ?_ (by with_reducible assumption)) | omega | (simp; done) | (simp; omega)))⟩
theorem fitsT' (a b : Int) (w : World) (hT : Tabs w) : Tells Tryd.prog w 10 #[.int .i64 a, .int .i64 b] (askV (fitB a.toNat b.toNat) a b) := fun W hW => Fits_any a b W (hT.grown hW)
theorem coversT' (a b : Int) (w : World) (hT : Tabs w) : Tells Tryd.prog w 11 #[.int .i64 a, .int .i64 b] (askV (covB a.toNat b.toNat) a b) := fun W hW => Covers_any a b W (hT.grown hW)
theorem joinT (ao : Option Addr) (cap : Nat) (ms : List Nat) (w : World) (hT : Tabs w) (hlen : ms.length < 9223372036854775807) (h6 : ∀ m ∈ ms, m < 6) (hz : Row w ao (ms.map (fun m : Nat => (m : Int)))) :
    Tells Tryd.prog w 18 #[.slice ao ms.length cap] (.tuple #[.int .i64 (joinL ms), .int .i64 0]) := by
  intro W hW
  obtain ⟨b, off, h⟩ := (hz.grown hW).at'
  rw [List.length_map] at h
  exact join_good b off cap ao ms W (hT.grown hW) hlen h6 (fun k hk => by rw [← getD_map ms k hk]; exact h k hk)
theorem togetherT (ao : Option Addr) (cap : Nat) (ms : List Nat) (w : World) (hT : Tabs w) (hlen : ms.length < 1000) (h6 : ∀ m ∈ ms, m < 6) (hz : Row w ao (ms.map (fun m : Nat => (m : Int)))) :
    Tells Tryd.prog w 19 #[.slice ao ms.length cap] (.tuple #[.bool (togL ms), .int .i64 0]) := together_good ao cap ms w hT hlen h6 hz
theorem row2 {w : World} {b : Nat} {x y : Int} {t : TypeId} (h : w.heap[b]? = some (.cells #[.int .i64 x, .int .i64 y] t (0, 0))) : Row w (some ⟨b, 0, none⟩) [x, y] :=
  ⟨b, 0, fun k hk => by
    have : k = 0 ∨ k = 1 := by simp at hk; omega
    rcases this with rfl | rfl <;> exact ⟨rfl, by rw [bcell h]; rfl⟩⟩
theorem row3 {w : World} {b : Nat} {x y z : Int} {t : TypeId} (h : w.heap[b]? = some (.cells #[.int .i64 x, .int .i64 y, .int .i64 z] t (0, 0))) : Row w (some ⟨b, 0, none⟩) [x, y, z] :=
  ⟨b, 0, fun k hk => by
    have : k = 0 ∨ k = 1 ∨ k = 2 := by simp at hk; omega
    rcases this with rfl | rfl | rfl <;> exact ⟨rfl, by rw [bcell h]; rfl⟩⟩
theorem row0 {w : World} {ao : Option Addr} : Row w ao [] := ⟨0, 0, fun k hk => by simp at hk⟩
theorem textBadT (a : Int) (w : World) (h : isM a = false) : Tells Tryd.prog w 23 #[.int .i64 a] (.tuple #[.string ⟨#[]⟩, .int .i64 130]) := .pure fun W => text_bad a W h

set_option maxRecDepth 100000 in
set_option maxHeartbeats 4000000 in
theorem works (w : World) (hT : Tabs w) (hN : TabN w) : Tells Tryd.prog w 15 #[] (.bool true) := by
  refine .of fun w hw => ?_
  have hT := hT.grown hw
  have hN := hN.grown hw
  have T1 := (fitsT' 2 2 w hT).eq (u := .tuple #[.bool true, .int .i64 0]) (by rfl)
  have T2 := (fitsT' 4 2 w hT).eq (u := .tuple #[.bool false, .int .i64 0]) (by rfl)
  have T3 := (coversT' 4 2 w hT).eq (u := .tuple #[.bool true, .int .i64 0]) (by rfl)
  have T4 := (parse_hit ⟨#[115, 105, 120]⟩ w hN (by decide)).eq (u := .tuple #[.int .i64 4, .int .i64 0]) (by rfl)
  have T5 := textBadT 6 w rfl
  have T6 := (joinT none 0 [] w hT (by simp) (by simp) row0).eq (u := .tuple #[.int .i64 0, .int .i64 0]) (by rfl)
  have NT := fun x => numT x w
  have HT := Lib.hid hT
  have HN := Lib.hid hN
  clear hT hN hw
  go_enter Tryd.func15, Tryd.ntmps15
  go_wp2_with fail
  refine Tells.use T1 (by (repeat' (first | (with_reducible exact World.grownBy.refl _ _) | (with_reducible assumption) | (with_reducible refine galloc ?_ _) | (with_reducible refine gdrewN ?_ _) | (with_reducible refine gdrew ?_) | (with_reducible refine gset ?_ (.inl ?_) _) | (with_reducible refine gput ?_ (.inl ?_) _) | (refine gtrans ?_ (by with_reducible assumption)) | omega | (simp; done) | (simp; omega)))) (fun w1 g_w1 hg => ?_)
  have hgp : w.grownBy w1 none := by (refine gtrans ?_ hg; (repeat' (first | (with_reducible exact World.grownBy.refl _ _) | (with_reducible assumption) | (with_reducible refine galloc ?_ _) | (with_reducible refine gdrewN ?_ _) | (with_reducible refine gdrew ?_) | (with_reducible refine gset ?_ (.inl ?_) _) | (with_reducible refine gput ?_ (.inl ?_) _) | (refine gtrans ?_ (by with_reducible assumption)) | omega | (simp; done) | (simp; omega))))
  repeat (have := gcell' hgp ‹World.cell? w _ = some _›; clear ‹World.cell? w _ = some _›)
  have hz := hg.size
  try simp at hz
  clear hg hgp hz
  go_wp2_with fail
  refine Tells.use T2 (by (repeat' (first | (with_reducible exact World.grownBy.refl _ _) | (with_reducible assumption) | (with_reducible refine galloc ?_ _) | (with_reducible refine gdrewN ?_ _) | (with_reducible refine gdrew ?_) | (with_reducible refine gset ?_ (.inl ?_) _) | (with_reducible refine gput ?_ (.inl ?_) _) | (refine gtrans ?_ (by with_reducible assumption)) | omega | (simp; done) | (simp; omega)))) (fun w2 g_w2 hg => ?_)
  have hgp : w1.grownBy w2 none := by (refine gtrans ?_ hg; (repeat' (first | (with_reducible exact World.grownBy.refl _ _) | (with_reducible assumption) | (with_reducible refine galloc ?_ _) | (with_reducible refine gdrewN ?_ _) | (with_reducible refine gdrew ?_) | (with_reducible refine gset ?_ (.inl ?_) _) | (with_reducible refine gput ?_ (.inl ?_) _) | (refine gtrans ?_ (by with_reducible assumption)) | omega | (simp; done) | (simp; omega))))
  repeat (have := gcell' hgp ‹World.cell? w1 _ = some _›; clear ‹World.cell? w1 _ = some _›)
  have hz := hg.size
  try simp at hz
  clear hg hgp hz
  go_wp2_with fail
  refine Tells.use T3 (by (repeat' (first | (with_reducible exact World.grownBy.refl _ _) | (with_reducible assumption) | (with_reducible refine galloc ?_ _) | (with_reducible refine gdrewN ?_ _) | (with_reducible refine gdrew ?_) | (with_reducible refine gset ?_ (.inl ?_) _) | (with_reducible refine gput ?_ (.inl ?_) _) | (refine gtrans ?_ (by with_reducible assumption)) | omega | (simp; done) | (simp; omega)))) (fun w3 g_w3 hg => ?_)
  have hgp : w2.grownBy w3 none := by (refine gtrans ?_ hg; (repeat' (first | (with_reducible exact World.grownBy.refl _ _) | (with_reducible assumption) | (with_reducible refine galloc ?_ _) | (with_reducible refine gdrewN ?_ _) | (with_reducible refine gdrew ?_) | (with_reducible refine gset ?_ (.inl ?_) _) | (with_reducible refine gput ?_ (.inl ?_) _) | (refine gtrans ?_ (by with_reducible assumption)) | omega | (simp; done) | (simp; omega))))
  repeat (have := gcell' hgp ‹World.cell? w2 _ = some _›; clear ‹World.cell? w2 _ = some _›)
  have hz := hg.size
  try simp at hz
  clear hg hgp hz
  go_wp2_with fail
  refine Tells.useHere ((joinT (some ⟨w3.heap.size, 0, none⟩) 2 [2, 3] _ (HT.out.grown (by (repeat' (first | (with_reducible exact World.grownBy.refl _ _) | (with_reducible assumption) | (with_reducible refine galloc ?_ _) | (with_reducible refine gdrewN ?_ _) | (with_reducible refine gdrew ?_) | (with_reducible refine gset ?_ (.inl ?_) _) | (with_reducible refine gput ?_ (.inl ?_) _) | (refine gtrans ?_ (by with_reducible assumption)) | omega | (simp; done) | (simp; omega))))) (by simp) (by decide) (row2 (hnewAt rfl))).eq (u := .tuple #[.int .i64 4, .int .i64 0]) rfl) (fun w4 hg => ?_)
  have g_w4 : w.grownBy w4 none := by (refine gtrans ?_ hg; (repeat' (first | (with_reducible exact World.grownBy.refl _ _) | (with_reducible assumption) | (with_reducible refine galloc ?_ _) | (with_reducible refine gdrewN ?_ _) | (with_reducible refine gdrew ?_) | (with_reducible refine gset ?_ (.inl ?_) _) | (with_reducible refine gput ?_ (.inl ?_) _) | (refine gtrans ?_ (by with_reducible assumption)) | omega | (simp; done) | (simp; omega))))
  have hgp : w3.grownBy w4 none := by (refine gtrans ?_ hg; (repeat' (first | (with_reducible exact World.grownBy.refl _ _) | (with_reducible assumption) | (with_reducible refine galloc ?_ _) | (with_reducible refine gdrewN ?_ _) | (with_reducible refine gdrew ?_) | (with_reducible refine gset ?_ (.inl ?_) _) | (with_reducible refine gput ?_ (.inl ?_) _) | (refine gtrans ?_ (by with_reducible assumption)) | omega | (simp; done) | (simp; omega))))
  repeat (have := gcell' hgp ‹World.cell? w3 _ = some _›; clear ‹World.cell? w3 _ = some _›)
  have hz := hg.size
  try simp at hz
  clear hg hgp hz
  go_wp2_with fail
  refine Tells.useHere ((togetherT (some ⟨w4.heap.size, 0, none⟩) 3 [1, 1, 4] _ (HT.out.grown (by (repeat' (first | (with_reducible exact World.grownBy.refl _ _) | (with_reducible assumption) | (with_reducible refine galloc ?_ _) | (with_reducible refine gdrewN ?_ _) | (with_reducible refine gdrew ?_) | (with_reducible refine gset ?_ (.inl ?_) _) | (with_reducible refine gput ?_ (.inl ?_) _) | (refine gtrans ?_ (by with_reducible assumption)) | omega | (simp; done) | (simp; omega))))) (by simp) (by decide) (row3 (hnewAt rfl))).eq (u := .tuple #[.bool true, .int .i64 0]) rfl) (fun w5 hg => ?_)
  have g_w5 : w.grownBy w5 none := by (refine gtrans ?_ hg; (repeat' (first | (with_reducible exact World.grownBy.refl _ _) | (with_reducible assumption) | (with_reducible refine galloc ?_ _) | (with_reducible refine gdrewN ?_ _) | (with_reducible refine gdrew ?_) | (with_reducible refine gset ?_ (.inl ?_) _) | (with_reducible refine gput ?_ (.inl ?_) _) | (refine gtrans ?_ (by with_reducible assumption)) | omega | (simp; done) | (simp; omega))))
  have hgp : w4.grownBy w5 none := by (refine gtrans ?_ hg; (repeat' (first | (with_reducible exact World.grownBy.refl _ _) | (with_reducible assumption) | (with_reducible refine galloc ?_ _) | (with_reducible refine gdrewN ?_ _) | (with_reducible refine gdrew ?_) | (with_reducible refine gset ?_ (.inl ?_) _) | (with_reducible refine gput ?_ (.inl ?_) _) | (refine gtrans ?_ (by with_reducible assumption)) | omega | (simp; done) | (simp; omega))))
  repeat (have := gcell' hgp ‹World.cell? w4 _ = some _›; clear ‹World.cell? w4 _ = some _›)
  have hz := hg.size
  try simp at hz
  clear hg hgp hz
  go_wp2_with fail
  refine Tells.use T4 (by (repeat' (first | (with_reducible exact World.grownBy.refl _ _) | (with_reducible assumption) | (with_reducible refine galloc ?_ _) | (with_reducible refine gdrewN ?_ _) | (with_reducible refine gdrew ?_) | (with_reducible refine gset ?_ (.inl ?_) _) | (with_reducible refine gput ?_ (.inl ?_) _) | (refine gtrans ?_ (by with_reducible assumption)) | omega | (simp; done) | (simp; omega)))) (fun w6 g_w6 hg => ?_)
  have hgp : w5.grownBy w6 none := by (refine gtrans ?_ hg; (repeat' (first | (with_reducible exact World.grownBy.refl _ _) | (with_reducible assumption) | (with_reducible refine galloc ?_ _) | (with_reducible refine gdrewN ?_ _) | (with_reducible refine gdrew ?_) | (with_reducible refine gset ?_ (.inl ?_) _) | (with_reducible refine gput ?_ (.inl ?_) _) | (refine gtrans ?_ (by with_reducible assumption)) | omega | (simp; done) | (simp; omega))))
  repeat (have := gcell' hgp ‹World.cell? w5 _ = some _›; clear ‹World.cell? w5 _ = some _›)
  have hz := hg.size
  try simp at hz
  clear hg hgp hz
  go_wp2_with fail
  refine Tells.use T5 (by (repeat' (first | (with_reducible exact World.grownBy.refl _ _) | (with_reducible assumption) | (with_reducible refine galloc ?_ _) | (with_reducible refine gdrewN ?_ _) | (with_reducible refine gdrew ?_) | (with_reducible refine gset ?_ (.inl ?_) _) | (with_reducible refine gput ?_ (.inl ?_) _) | (refine gtrans ?_ (by with_reducible assumption)) | omega | (simp; done) | (simp; omega)))) (fun w7 g_w7 hg => ?_)
  have hgp : w6.grownBy w7 none := by (refine gtrans ?_ hg; (repeat' (first | (with_reducible exact World.grownBy.refl _ _) | (with_reducible assumption) | (with_reducible refine galloc ?_ _) | (with_reducible refine gdrewN ?_ _) | (with_reducible refine gdrew ?_) | (with_reducible refine gset ?_ (.inl ?_) _) | (with_reducible refine gput ?_ (.inl ?_) _) | (refine gtrans ?_ (by with_reducible assumption)) | omega | (simp; done) | (simp; omega))))
  repeat (have := gcell' hgp ‹World.cell? w6 _ = some _›; clear ‹World.cell? w6 _ = some _›)
  have hz := hg.size
  try simp at hz
  clear hg hgp hz
  go_wp2_with fail
  refine Tells.use T6 (by (repeat' (first | (with_reducible exact World.grownBy.refl _ _) | (with_reducible assumption) | (with_reducible refine galloc ?_ _) | (with_reducible refine gdrewN ?_ _) | (with_reducible refine gdrew ?_) | (with_reducible refine gset ?_ (.inl ?_) _) | (with_reducible refine gput ?_ (.inl ?_) _) | (refine gtrans ?_ (by with_reducible assumption)) | omega | (simp; done) | (simp; omega)))) (fun w8 g_w8 hg => ?_)
  have hgp : w7.grownBy w8 none := by (refine gtrans ?_ hg; (repeat' (first | (with_reducible exact World.grownBy.refl _ _) | (with_reducible assumption) | (with_reducible refine galloc ?_ _) | (with_reducible refine gdrewN ?_ _) | (with_reducible refine gdrew ?_) | (with_reducible refine gset ?_ (.inl ?_) _) | (with_reducible refine gput ?_ (.inl ?_) _) | (refine gtrans ?_ (by with_reducible assumption)) | omega | (simp; done) | (simp; omega))))
  repeat (have := gcell' hgp ‹World.cell? w7 _ = some _›; clear ‹World.cell? w7 _ = some _›)
  have hz := hg.size
  try simp at hz
  clear hg hgp hz
  go_wp2_with fail
  clear T1 T2 T3 T4 T5 T6 HT HN
  go_wp2_with (go_at_call 12; refine Tells.use (NT _) (by (repeat' (first | (with_reducible exact World.grownBy.refl _ _) | (with_reducible assumption) | (with_reducible refine galloc ?_ _) | (with_reducible refine gdrewN ?_ _) | (with_reducible refine gdrew ?_) | (with_reducible refine gset ?_ (.inl ?_) _) | (with_reducible refine gput ?_ (.inl ?_) _) | (refine gtrans ?_ (by with_reducible assumption)) | omega | (simp; done) | (simp; omega)))) (fun _ g _ => ?_))
  go_ret
  exact ⟨by first | rfl | (simp; done) | (simp; omega), by (repeat' (first | (with_reducible exact World.grownBy.refl _ _) | (with_reducible assumption) | (with_reducible refine galloc ?_ _) | (with_reducible refine gdrewN ?_ _) | (with_reducible refine gdrew ?_) | (with_reducible refine gset ?_ (.inl ?_) _) | (with_reducible refine gput ?_ (.inl ?_) _) | (refine gtrans ?_ (by with_reducible assumption)) | omega | (simp; done) | (simp; omega)))⟩
end Go.Proofs.YtgcejfcfaaidhaaDoor
