/- Parse tells the mode of a name, or the error. The tables are laid. -/
import Derived.Test.YtgcejfcfaaidhaaDoorIt
set_option linter.unusedSimpArgs false
set_option linter.unusedVariables false
namespace Go.Proofs.YtgcejfcfaaidhaaDoor
open Go.RowKit ref
attribute [local go_sem] Oper.semAt_some

set_option maxRecDepth 100000 in
set_option maxHeartbeats 4000000 in
theorem modes (w : World) : Tells Tryd.prog w 31 #[] (.func (.func 55) #[] #[]) := by
  have hmf : ∀ (fn : Fn) (first cap : Array Value) (w : World), (Instr.makeFunc fn first cap).run Tryd.prog w = .ok (.func fn first cap) w := fun _ _ _ _ => rfl
  refine .pure fun w => ?_
  go_enter Tryd.func31, Tryd.ntmps31
  go_wp2
  go_ret
  exact ⟨by first | rfl | (simp; done) | (simp; omega), by (repeat' (first | (with_reducible exact World.grownBy.refl _ _) | (with_reducible assumption) | (with_reducible refine galloc ?_ _) | (with_reducible refine gdrewN ?_ _) | (with_reducible refine gdrew ?_) | (with_reducible refine gset ?_ (.inl ?_) _) | (with_reducible refine gput ?_ (.inl ?_) _) | (refine gtrans ?_ (by with_reducible assumption)) | omega | (simp; done) | (simp; omega)))⟩

set_option maxRecDepth 100000 in
set_option maxHeartbeats 4000000 in
theorem parse_hit (s : ByteArray) (w : World) (hT : TabN w) (hm : modeOf s.data.toList < 6) : Tells Tryd.prog w 24 #[.string s] (.tuple #[.int .i64 (modeOf s.data.toList), .int .i64 0]) := by
  refine .of fun w hw => ?_
  have hT := hT.grown hw
  have T := modes w
  obtain ⟨V, hV⟩ : ∃ V : Value, V = (.tuple #[.int .i64 (modeOf s.data.toList), .int .i64 0]) := ⟨_, rfl⟩
  rw [← hV]
  have HV := Lib.hid hV
  have HT := Lib.hid hT
  have HM := Lib.hid hm
  have h1 : 1 < w.heap.size := World.block_lt_of_cell? w _ (hT 0 (by omega))
  clear hV hw hT hm
  refine calls_of_wp_marks Tryd.func24 rfl ?_
  simp only [Tryd.ntmps24, List.size_toArray, List.length_cons, List.length_nil, Nat.reduceAdd, Nat.reduceSub, Array.replicate_succ, Array.replicate_zero, List.push_toArray, List.append_toArray, List.nil_append, List.cons_append]
  go_wp2_with fail
  go_step3
  go_wp2_with fail
  go_step3
  go_wp2_with fail
  refine Tells.use T (by (repeat' (first | (with_reducible exact World.grownBy.refl _ _) | (with_reducible assumption) | (with_reducible refine galloc ?_ _) | (with_reducible refine gdrewN ?_ _) | (with_reducible refine gdrew ?_) | (with_reducible refine gset ?_ (.inl ?_) _) | (with_reducible refine gput ?_ (.inl ?_) _) | (refine gtrans ?_ (by with_reducible assumption)) | omega | (simp; done) | (simp; omega)))) (fun w2 g_w2 hg => ?_)
  have hgp : w.grownBy w2 none := by (refine gtrans ?_ hg; (repeat' (first | (with_reducible exact World.grownBy.refl _ _) | (with_reducible assumption) | (with_reducible refine galloc ?_ _) | (with_reducible refine gdrewN ?_ _) | (with_reducible refine gdrew ?_) | (with_reducible refine gset ?_ (.inl ?_) _) | (with_reducible refine gput ?_ (.inl ?_) _) | (refine gtrans ?_ (by with_reducible assumption)) | omega | (simp; done) | (simp; omega))))
  repeat (have := gcell' hgp ‹World.cell? w _ = some _›; clear ‹World.cell? w _ = some _›)
  try (have := gcell hg (b := w.heap.size) (o := 0) (by go_simp; rfl) (by simp))
  try (have := gcell hg (b := w.heap.size + 1) (o := 0) (by go_simp; rfl) (by simp))
  have hz := hg.size
  try simp at hz
  try (refine claimP (p := w.heap.size < w2.heap.size) ?_ (fun _ => ?_); · omega)
  try (refine claimP (p := w.heap.size + 1 < w2.heap.size) ?_ (fun _ => ?_); · omega)
  have b1 := gblock hg (hold (hnewAt (n := w.heap.size) rfl)) (by simp)
  have b2 := gblock hg (hnewAt (n := w.heap.size + 1) (by simp)) (by simp)
  clear hg hgp hz
  have s2 : w.heap.size + 1 < w2.heap.size := (Array.getElem?_eq_some_iff.1 b2).1
  go_wp2_with fail
  refine (wpIn_wide (n := 0)).1 ?_
  refine wpIn_range_iter (each w2 (HT.out.grown g_w2)) rfl (enters_of Tryd.func55 (by kernel_rfl) rfl) rfl [w.heap.size + 1]
    (fun i X => X.heap[w.heap.size]? = some (.cells #[.string s] 9 (0, 0)) ∧ X.heap[w.heap.size + 1]? = some (.cells #[.int .i64 (-1)] 22 (0, 0)) ∧ w.grownBy X none ∧ ∀ j, j < i → nameV j ≠ .string s)
    (fun c X => ∃ k : Nat, k < 6 ∧ c = .exit 0 ∧ X.heap[w.heap.size]? = some (.cells #[.string s] 9 (0, 0)) ∧ X.heap[w.heap.size + 1]? = some (.cells #[.int .i64 k] 22 (0, 0)) ∧ w.grownBy X none ∧ nameV k = .string s)
    ?_ ?_ ?_ ?_ ?_ ?_ ?_ ?_ ?_
  · intro k hk
    simp at hk
    subst hk
    exact ⟨s2, by omega⟩
  · rintro k rfl
    omega
  · rintro i X Y ⟨x1, x2, x3, x4⟩ hB
    exact ⟨(hB.block _ (by omega)).trans x1, (hB.block _ (by omega)).trans x2, ⟨hB.os.trans x3.os, hB.tape.trans x3.tape, hB.output.trans x3.output, Nat.le_trans x3.size hB.size, fun k hk hn => (hB.block k (by omega)).trans (x3.block k hk hn)⟩, x4⟩
  · rintro c X Y ⟨k, x0, x00, x1, x2, x3, x4⟩ hB
    exact ⟨k, x0, x00, (hB.block _ (by omega)).trans x1, (hB.block _ (by omega)).trans x2, ⟨hB.os.trans x3.os, hB.tape.trans x3.tape, hB.output.trans x3.output, Nat.le_trans x3.size hB.size, fun k hk hn => (hB.block k (by omega)).trans (x3.block k hk hn)⟩, x4⟩
  · exact ⟨b1, b2, by (repeat' (first | (with_reducible exact World.grownBy.refl _ _) | (with_reducible assumption) | (with_reducible refine galloc ?_ _) | (with_reducible refine gdrewN ?_ _) | (with_reducible refine gdrew ?_) | (with_reducible refine gset ?_ (.inl ?_) _) | (with_reducible refine gput ?_ (.inl ?_) _) | (refine gtrans ?_ (by with_reducible assumption)) | omega | (simp; done) | (simp; omega))), fun j hj => by omega⟩
  · intro i args hi
    have h6 : i < 6 := by have := (List.getElem?_eq_some_iff.1 hi).1; simpa [modeL] using this
    rw [modeL_at i h6] at hi
    cases hi
    rfl
  · intro i args X l hi hJ hl hlX
    have h6 : i < 6 := by have := (List.getElem?_eq_some_iff.1 hi).1; simpa [modeL] using this
    rw [modeL_at i h6] at hi
    cases hi
    obtain ⟨nk, hnk⟩ : ∃ b : ByteArray, nameV i = .string b := ⟨_, rfl⟩
    rw [hnk]
    have HN := Lib.hid hnk
    clear hnk hJ b1 b2
    gi_wp2
    refine ⟨by (repeat' (first | (with_reducible exact World.grownBy.refl _ _) | (with_reducible assumption) | (with_reducible refine galloc ?_ _) | (with_reducible refine gdrewN ?_ _) | (with_reducible refine gdrew ?_) | (with_reducible refine gset ?_ (.inl ?_) _) | (with_reducible refine gput ?_ (.inl ?_) _) | (refine gtrans ?_ (by with_reducible assumption)) | omega | (simp; done) | (simp; omega))), ?_⟩
    intro X2 hgX hsX hJ
    obtain ⟨x1, x2, x3, x4⟩ := hJ
    have HX1 := Lib.hid x1
    have HX2 := Lib.hid x2
    have HX4 := Lib.hid x4
    have c1 := bcell x1 0
    have c2 := bcell x2 0
    simp at c1 c2
    have z2 := bfroz x2 0
    clear x1 x2 x4 hgX
    gi_wp2_with fail
    · rename_i hs
      have hs := beqL_true hs
      refine ⟨(Oth.refl _ _).set (.inl (by simp)) _, i, h6, rfl, hset HX1.out (by simp), by simpa using bset HX2.out 0 (.int .i64 i), by (repeat' (first | (with_reducible exact World.grownBy.refl _ _) | (with_reducible assumption) | (with_reducible refine galloc ?_ _) | (with_reducible refine gdrewN ?_ _) | (with_reducible refine gdrew ?_) | (with_reducible refine gset ?_ (.inl ?_) _) | (with_reducible refine gput ?_ (.inl ?_) _) | (refine gtrans ?_ (by with_reducible assumption)) | omega | (simp; done) | (simp; omega))), by rw [HN.out, hs]⟩
    · rename_i hs
      have hs := beqL_false hs
      refine ⟨Oth.refl _ _, HX1.out, HX2.out, x3, ?_⟩
      intro j hj
      by_cases e : j = i
      · rw [e, HN.out]; simpa using hs
      · exact HX4.out j (by omega)
  · intro X D hJ hD hXD hsz
    clear b1 b2
    exfalso
    have := modeOf_miss s hJ.2.2.2
    have := HM.out
    omega
  · intro c X D hK hD hXD hsz
    clear b1 b2
    obtain ⟨k, hk6, rfl, hb1, hb2, hgw, hn⟩ := hK
    have hv : modeOf s.data.toList = k := modeOf_hit k hk6 s hn
    rw [hv] at HV
    refine wpIn_exit ?_
    have c2 := bcell hb2 0
    simp at c2
    have hk0 : (0 : Int) ≤ k := by omega
    have HD' := Lib.hid hXD
    clear hXD hb1 hb2 hsz hn hv
    go_wp2_with fail
    refine ⟨by simp, .inl ⟨_, _, rfl, run_takeDeferred HD'.out, ?_⟩⟩
    refine ⟨.tuple #[.int .i64 k, .int .i64 0], by simp [results, Tryd.results24, go_sem], ?_⟩
    exact ⟨by rw [HV.out], by (repeat' (first | (with_reducible exact World.grownBy.refl _ _) | (with_reducible assumption) | (with_reducible refine galloc ?_ _) | (with_reducible refine gdrewN ?_ _) | (with_reducible refine gdrew ?_) | (with_reducible refine gset ?_ (.inl ?_) _) | (with_reducible refine gput ?_ (.inl ?_) _) | (refine gtrans ?_ (by with_reducible assumption)) | omega | (simp; done) | (simp; omega)))⟩

set_option maxRecDepth 100000 in
set_option maxHeartbeats 4000000 in
theorem parse_miss (s : ByteArray) (w : World) (hT : TabN w) (hm : ¬ modeOf s.data.toList < 6) : Tells Tryd.prog w 24 #[.string s] (.tuple #[.int .i64 0, .int .i64 130]) := by
  refine .of fun w hw => ?_
  have hT := hT.grown hw
  have T := modes w
  obtain ⟨V, hV⟩ : ∃ V : Value, V = (.tuple #[.int .i64 0, .int .i64 130]) := ⟨_, rfl⟩
  rw [← hV]
  have HV := Lib.hid hV
  have HT := Lib.hid hT
  have HM := Lib.hid hm
  have h1 : 1 < w.heap.size := World.block_lt_of_cell? w _ (hT 0 (by omega))
  clear hV hw hT hm
  refine calls_of_wp_marks Tryd.func24 rfl ?_
  simp only [Tryd.ntmps24, List.size_toArray, List.length_cons, List.length_nil, Nat.reduceAdd, Nat.reduceSub, Array.replicate_succ, Array.replicate_zero, List.push_toArray, List.append_toArray, List.nil_append, List.cons_append]
  go_wp2_with fail
  refine wp_scope_fwd ?_
  go_wp2_with fail
  go_step3
  go_wp2_with fail
  refine Tells.use T (by (repeat' (first | (with_reducible exact World.grownBy.refl _ _) | (with_reducible assumption) | (with_reducible refine galloc ?_ _) | (with_reducible refine gdrewN ?_ _) | (with_reducible refine gdrew ?_) | (with_reducible refine gset ?_ (.inl ?_) _) | (with_reducible refine gput ?_ (.inl ?_) _) | (refine gtrans ?_ (by with_reducible assumption)) | omega | (simp; done) | (simp; omega)))) (fun w2 g_w2 hg => ?_)
  have hgp : w.grownBy w2 none := by (refine gtrans ?_ hg; (repeat' (first | (with_reducible exact World.grownBy.refl _ _) | (with_reducible assumption) | (with_reducible refine galloc ?_ _) | (with_reducible refine gdrewN ?_ _) | (with_reducible refine gdrew ?_) | (with_reducible refine gset ?_ (.inl ?_) _) | (with_reducible refine gput ?_ (.inl ?_) _) | (refine gtrans ?_ (by with_reducible assumption)) | omega | (simp; done) | (simp; omega))))
  repeat (have := gcell' hgp ‹World.cell? w _ = some _›; clear ‹World.cell? w _ = some _›)
  try (have := gcell hg (b := w.heap.size) (o := 0) (by go_simp; rfl) (by simp))
  try (have := gcell hg (b := w.heap.size + 1) (o := 0) (by go_simp; rfl) (by simp))
  have hz := hg.size
  try simp at hz
  try (refine claimP (p := w.heap.size < w2.heap.size) ?_ (fun _ => ?_); · omega)
  try (refine claimP (p := w.heap.size + 1 < w2.heap.size) ?_ (fun _ => ?_); · omega)
  have b1 := gblock hg (hold (hnewAt (n := w.heap.size) rfl)) (by simp)
  have b2 := gblock hg (hnewAt (n := w.heap.size + 1) (by simp)) (by simp)
  clear hg hgp hz
  have s2 : w.heap.size + 1 < w2.heap.size := (Array.getElem?_eq_some_iff.1 b2).1
  go_wp2_with fail
  refine (wpIn_wide (n := 0)).1 ?_
  refine wpIn_range_iter (each w2 (HT.out.grown g_w2)) rfl (enters_of Tryd.func55 (by kernel_rfl) rfl) rfl [w.heap.size + 1]
    (fun i X => X.heap[w.heap.size]? = some (.cells #[.string s] 9 (0, 0)) ∧ X.heap[w.heap.size + 1]? = some (.cells #[.int .i64 (-1)] 22 (0, 0)) ∧ w.grownBy X none ∧ ∀ j, j < i → nameV j ≠ .string s)
    (fun c X => ∃ k : Nat, k < 6 ∧ c = .exit 0 ∧ X.heap[w.heap.size]? = some (.cells #[.string s] 9 (0, 0)) ∧ X.heap[w.heap.size + 1]? = some (.cells #[.int .i64 k] 22 (0, 0)) ∧ w.grownBy X none ∧ nameV k = .string s)
    ?_ ?_ ?_ ?_ ?_ ?_ ?_ ?_ ?_
  · intro k hk
    simp at hk
    subst hk
    exact ⟨s2, by omega⟩
  · rintro k rfl
    omega
  · rintro i X Y ⟨x1, x2, x3, x4⟩ hB
    exact ⟨(hB.block _ (by omega)).trans x1, (hB.block _ (by omega)).trans x2, ⟨hB.os.trans x3.os, hB.tape.trans x3.tape, hB.output.trans x3.output, Nat.le_trans x3.size hB.size, fun k hk hn => (hB.block k (by omega)).trans (x3.block k hk hn)⟩, x4⟩
  · rintro c X Y ⟨k, x0, x00, x1, x2, x3, x4⟩ hB
    exact ⟨k, x0, x00, (hB.block _ (by omega)).trans x1, (hB.block _ (by omega)).trans x2, ⟨hB.os.trans x3.os, hB.tape.trans x3.tape, hB.output.trans x3.output, Nat.le_trans x3.size hB.size, fun k hk hn => (hB.block k (by omega)).trans (x3.block k hk hn)⟩, x4⟩
  · exact ⟨b1, b2, by (repeat' (first | (with_reducible exact World.grownBy.refl _ _) | (with_reducible assumption) | (with_reducible refine galloc ?_ _) | (with_reducible refine gdrewN ?_ _) | (with_reducible refine gdrew ?_) | (with_reducible refine gset ?_ (.inl ?_) _) | (with_reducible refine gput ?_ (.inl ?_) _) | (refine gtrans ?_ (by with_reducible assumption)) | omega | (simp; done) | (simp; omega))), fun j hj => by omega⟩
  · intro i args hi
    have h6 : i < 6 := by have := (List.getElem?_eq_some_iff.1 hi).1; simpa [modeL] using this
    rw [modeL_at i h6] at hi
    cases hi
    rfl
  · intro i args X l hi hJ hl hlX
    have h6 : i < 6 := by have := (List.getElem?_eq_some_iff.1 hi).1; simpa [modeL] using this
    rw [modeL_at i h6] at hi
    cases hi
    obtain ⟨nk, hnk⟩ : ∃ b : ByteArray, nameV i = .string b := ⟨_, rfl⟩
    rw [hnk]
    have HN := Lib.hid hnk
    clear hnk hJ b1 b2
    gi_wp2
    refine ⟨by (repeat' (first | (with_reducible exact World.grownBy.refl _ _) | (with_reducible assumption) | (with_reducible refine galloc ?_ _) | (with_reducible refine gdrewN ?_ _) | (with_reducible refine gdrew ?_) | (with_reducible refine gset ?_ (.inl ?_) _) | (with_reducible refine gput ?_ (.inl ?_) _) | (refine gtrans ?_ (by with_reducible assumption)) | omega | (simp; done) | (simp; omega))), ?_⟩
    intro X2 hgX hsX hJ
    obtain ⟨x1, x2, x3, x4⟩ := hJ
    have HX1 := Lib.hid x1
    have HX2 := Lib.hid x2
    have HX4 := Lib.hid x4
    have c1 := bcell x1 0
    have c2 := bcell x2 0
    simp at c1 c2
    have z2 := bfroz x2 0
    clear x1 x2 x4 hgX
    gi_wp2_with fail
    · rename_i hs
      have hs := beqL_true hs
      refine ⟨(Oth.refl _ _).set (.inl (by simp)) _, i, h6, rfl, hset HX1.out (by simp), by simpa using bset HX2.out 0 (.int .i64 i), by (repeat' (first | (with_reducible exact World.grownBy.refl _ _) | (with_reducible assumption) | (with_reducible refine galloc ?_ _) | (with_reducible refine gdrewN ?_ _) | (with_reducible refine gdrew ?_) | (with_reducible refine gset ?_ (.inl ?_) _) | (with_reducible refine gput ?_ (.inl ?_) _) | (refine gtrans ?_ (by with_reducible assumption)) | omega | (simp; done) | (simp; omega))), by rw [HN.out, hs]⟩
    · rename_i hs
      have hs := beqL_false hs
      refine ⟨Oth.refl _ _, HX1.out, HX2.out, x3, ?_⟩
      intro j hj
      by_cases e : j = i
      · rw [e, HN.out]; simpa using hs
      · exact HX4.out j (by omega)
  · intro X D hJ hD hXD hsz
    clear b1 b2
    obtain ⟨hb1, hb2, hgw, hall⟩ := hJ
    have c2 := bcell hb2 0
    simp at c2
    have HD' := Lib.hid hXD
    clear hXD hb1 hb2 hall hsz
    go_wp2_with fail
    apply wp_goto
    simp only [Exit.then, Exit.inBlock]
    refine ⟨_, rfl, ?_⟩
    go_wp2_with fail
    try rw [Exit.noGoto_ret]
    refine ⟨by simp, .inl ⟨_, _, rfl, run_takeDeferred HD'.out, ?_⟩⟩
    refine ⟨.tuple #[.int .i64 0, .int .i64 130], by simp [results, Tryd.results24, go_sem], ?_⟩
    exact ⟨by rw [HV.out], by (repeat' (first | (with_reducible exact World.grownBy.refl _ _) | (with_reducible assumption) | (with_reducible refine galloc ?_ _) | (with_reducible refine gdrewN ?_ _) | (with_reducible refine gdrew ?_) | (with_reducible refine gset ?_ (.inl ?_) _) | (with_reducible refine gput ?_ (.inl ?_) _) | (refine gtrans ?_ (by with_reducible assumption)) | omega | (simp; done) | (simp; omega)))⟩
  · intro c X D hK hD hXD hsz
    clear b1 b2
    exfalso
    obtain ⟨k, hk6, rfl, hb1, hb2, hgw, hn⟩ := hK
    exact HM.out (by rw [modeOf_hit k hk6 s hn]; exact hk6)

end Go.Proofs.YtgcejfcfaaidhaaDoor
