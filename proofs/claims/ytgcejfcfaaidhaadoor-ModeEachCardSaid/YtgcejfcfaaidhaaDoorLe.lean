/- The walk of the law ModeEach. The tables are laid. -/
import Derived.Test.YtgcejfcfaaidhaaDoorLj
import Derived.Test.YtgcejfcfaaidhaaDoorLib6
set_option linter.unusedSimpArgs false
set_option linter.unusedVariables false
namespace Go.Proofs.YtgcejfcfaaidhaaDoor
open Go.RowKit ref
attribute [local go_sem] Oper.semAt_some

@[local go_sem] theorem eqF (f : Fn) (a c : Array Value) (w : World) : (binOp .eql 45 (.func f a c) .nilFunc).run Tryd.prog w = .ok (.bool false) w := by kernel_rfl
set_option maxRecDepth 100000 in
set_option maxHeartbeats 8000000 in
theorem each_law (many : Int) (w : World) (hT : Tabs w) (hN : TabN w) : Tells Tryd.prog w 6 #[.int .i64 many] (.bool true) := by
  have TW := works w hT hN
  have TM := modes w
  have HN := Lib.hid hN
  have l1 : 1 < w.heap.size := World.block_lt_of_cell? w _ (hN 0 (by omega))
  clear hT hN
  refine .walk fun b w1 hb g hs => ?_
  refine calls_of_wp_marks Tryd.func6 rfl ?_
  simp only [Tryd.ntmps6, List.size_toArray, List.length_cons, List.length_nil, Nat.reduceAdd, Nat.reduceSub, Array.replicate_succ, Array.replicate_zero, List.push_toArray, List.append_toArray, List.nil_append, List.cons_append]
  go_wp2_with fail
  refine Tells.arm (w := w) (b := b) TM hb (by first | with_reducible exact g | (repeat' (first | (with_reducible exact World.grownBy.refl _ _) | (with_reducible assumption) | (with_reducible refine galloc ?_ _) | (with_reducible refine gdrewN ?_ _) | (with_reducible refine gdrew ?_) | (with_reducible refine gset ?_ (.inl ?_) _) | (with_reducible refine gput ?_ (.inl ?_) _) | (refine gtrans ?_ (by with_reducible assumption)) | omega | (simp; done) | (simp; omega)))) (fun w2 g' hg => ?_)
  have hgp : w1.grownBy w2 none := by (refine gtrans ?_ hg; (repeat' (first | (with_reducible exact World.grownBy.refl _ _) | (with_reducible assumption) | (with_reducible refine galloc ?_ _) | (with_reducible refine gdrewN ?_ _) | (with_reducible refine gdrew ?_) | (with_reducible refine gset ?_ (.inl ?_) _) | (with_reducible refine gput ?_ (.inl ?_) _) | (refine gtrans ?_ (by with_reducible assumption)) | omega | (simp; done) | (simp; omega))))
  repeat (have := gcell' hgp ‹World.cell? w1 _ = some _›; clear ‹World.cell? w1 _ = some _›)
  try (have := gcell hg (b := w1.heap.size) (o := 0) (by go_simp; rfl) (by simp))
  try (have := gcell hg (b := w1.heap.size + 1) (o := 0) (by go_simp; rfl) (by simp))
  have hz := hg.size
  try simp at hz
  try (refine claimP (p := w1.heap.size < w2.heap.size) ?_ (fun _ => ?_); · omega)
  try (refine claimP (p := w1.heap.size + 1 < w2.heap.size) ?_ (fun _ => ?_); · omega)
  have br := gblock hg (hnewAt (n := w1.heap.size + 1) (by simp)) (by simp)
  clear hg hgp hz
  clear g
  have g := g'
  clear g'
  have HR := Lib.hid br
  have lr := (Array.getElem?_eq_some_iff.1 br).1
  clear br
  go_wp2_with fail
  have l1' : 1 < b.heap.size := Nat.lt_of_lt_of_le l1 hb.size
  refine wp_loop_rounds 3 ?_
  rw [rounds_succ]
  go_wp2_with fail
  refine at_world' (fun W0 hg => ?_)
  have bn := gblock hg (hnewAt (n := w2.heap.size + 1) (by simp)) (by simp)
  have bt := gblock hg (hold (hnewAt (n := w2.heap.size) (by simp))) (by simp)
  have HR0 := Lib.hid (gblock hg (hold (hold HR.out)) (by simp))
  have zn := bfroz bn 0
  have hgp : w2.grownBy W0 none := by (refine gtrans ?_ hg; (repeat' (first | (with_reducible exact World.grownBy.refl _ _) | (with_reducible assumption) | (with_reducible refine galloc ?_ _) | (with_reducible refine gdrewN ?_ _) | (with_reducible refine gdrew ?_) | (with_reducible refine gset ?_ (.inl ?_) _) | (with_reducible refine gput ?_ (.inl ?_) _) | (refine gtrans ?_ (by with_reducible assumption)) | omega | (simp; done) | (simp; omega))))
  repeat (have := gcell' hgp ‹World.cell? w2 _ = some _›; clear ‹World.cell? w2 _ = some _›)
  try (have := gcell hg (b := w2.heap.size) (o := 0) (by go_simp; rfl) (by simp))
  try (have := gcell hg (b := w2.heap.size + 1) (o := 0) (by go_simp; rfl) (by simp))
  have hz := hg.size
  try simp at hz
  try (refine claimP (p := w2.heap.size < W0.heap.size) ?_ (fun _ => ?_); · omega)
  try (refine claimP (p := w2.heap.size + 1 < W0.heap.size) ?_ (fun _ => ?_); · omega)
  have g0 : b.grownBy W0 none := gtrans g hgp
  clear hg hgp hz
  have ln : w2.heap.size + 1 < W0.heap.size := (Array.getElem?_eq_some_iff.1 bn).1
  have lb : b.heap.size ≤ w2.heap.size := g.size
  refine (wpIn_wide (n := 0)).1 ?_
  refine wpIn_range_iter (each W0 (HN.out.grown (gtrans hb g0))) rfl (enters_of Tryd.func55 (by kernel_rfl) rfl) rfl [w2.heap.size + 1]
    (fun i X => Cnt W0 (w2.heap.size + 1) 3 (.int .i64 (i : Nat)) X ∧ (i = 0 ∨ (i : Int) < many) ∧ i ≤ 6)
    (fun c X => ∃ i : Nat, c = .exit 2 ∧ Cnt W0 (w2.heap.size + 1) 3 (.int .i64 i) X ∧ 1 ≤ i ∧ i ≤ 6 ∧ many ≤ (i : Int) ∧ (i = 1 ∨ (i : Int) - 1 < many))
    ?_ ?_ ?_ ?_ ?_ ?_ ?_ ?_ ?_
  · intro k hk
    simp at hk
    subst hk
    exact ⟨ln, by omega⟩
  · rintro k rfl
    omega
  · rintro i X Y ⟨x1, x2⟩ hB
    exact ⟨x1.below ln hB, x2⟩
  · rintro c X Y ⟨i, x0, x1, x2⟩ hB
    exact ⟨i, x0, x1.below ln hB, x2⟩
  · exact ⟨.init bn, .inl rfl, by omega⟩
  · intro i args hi
    have h6 : i < 6 := by have := (List.getElem?_eq_some_iff.1 hi).1; simpa [modeL] using this
    rw [modeL_at i h6] at hi
    cases hi
    rfl
  · intro i args X l hi hJ hl hlX
    have h6 : i < 6 := by have := (List.getElem?_eq_some_iff.1 hi).1; simpa [modeL] using this
    rw [modeL_at i h6] at hi
    cases hi
    have TN := ref.name i h6 w
    obtain ⟨nk, hnk⟩ : ∃ b : ByteArray, nameV i = .string b := ⟨_, rfl⟩
    rw [hnk] at TN ⊢
    have HN := Lib.hid hnk
    clear hnk hJ bn bt
    gi_wp2_with fail
    refine ⟨by (repeat' (first | (with_reducible exact World.grownBy.refl _ _) | (with_reducible assumption) | (with_reducible refine galloc ?_ _) | (with_reducible refine gdrewN ?_ _) | (with_reducible refine gdrew ?_) | (with_reducible refine gset ?_ (.inl ?_) _) | (with_reducible refine gput ?_ (.inl ?_) _) | (refine gtrans ?_ (by with_reducible assumption)) | omega | (simp; done) | (simp; omega))), ?_⟩
    intro X2 hgX hsX hJ
    obtain ⟨hC, hi1, hi2⟩ := hJ
    have cn := hC.cell
    have zn2 := hC.froz
    have hgb := hC.grown g0 (by omega)
    have i5 : ¬ (5 : Int) < (i : Int) := by omega
    clear ‹W0.cell? ⟨w2.heap.size + 1, 0, none⟩ = some _›
    repeat (have := hC.other ‹World.cell? W0 _ = some _› (by simp; try omega); clear ‹World.cell? W0 _ = some _›)
    clear hgX
    gi_wp2_with fail
    refine ⟨trivial, rfl, ?_⟩
    refine (CallsIn.inRound l (callsIn_wide.2 (TN X2 (by (repeat' (first | (with_reducible exact World.grownBy.refl _ _) | (with_reducible assumption) | (with_reducible refine galloc ?_ _) | (with_reducible refine gdrewN ?_ _) | (with_reducible refine gdrew ?_) | (with_reducible refine gset ?_ (.inl ?_) _) | (with_reducible refine gput ?_ (.inl ?_) _) | (refine gtrans ?_ (by with_reducible assumption)) | omega | (simp; done) | (simp; omega))))))).mono ?_
    rintro e X3 ⟨rfl, hg3⟩
    have hC3 := hC.grow hg3
    have cn := hC3.cell
    have zn2 := hC3.froz
    repeat (have := gcell' hg3 ‹World.cell? X2 _ = some _›; clear ‹World.cell? X2 _ = some _›)
    have hgb3 := gtrans hgb hg3
    have HC3 := Lib.hid hC3
    have hX := Lib.hid (Oth.ofGrown (ks := [w2.heap.size + 1]) hg3 (by simp))
    clear hC hC3 hg3
    by_cases hmi : many ≤ (i : Int) + 1
    · gi_wp2_with fail
      exact ⟨hX.out.set (.inl (by simp)) _, i + 1, rfl, by simpa using HC3.out.set, by omega, by omega, by omega, by omega⟩
    · gi_wp2_with fail
      exact ⟨hX.out.set (.inl (by simp)) _, by simpa using HC3.out.set, .inr (by omega), by omega⟩
  · intro X D hJ hD hXD hsz
    subst hD
    obtain ⟨hC, hi1, _⟩ := hJ
    rw [show modeL.length = 6 from rfl] at hC hi1
    have cn := hC.cell
    have gX := hC.grown g0 (by omega)
    clear ‹W0.cell? ⟨w2.heap.size + 1, 0, none⟩ = some _›
    repeat (have := hC.other ‹World.cell? W0 _ = some _› (by simp; try omega); clear ‹World.cell? W0 _ = some _›)
    have hm6 : 6 < many := by omega
    have HC := Lib.hid hC
    have HD := Lib.hid hXD
    have HRX := Lib.hid (hC.oth.same HR0.out (by simp; omega))
    clear hC hXD hi1 bn bt zn
    go_wp2_with fail
    rw [rounds_succ]
    go_wp2_with fail
    refine at_world' (fun Y0 hg => ?_)
    have bn2 := gblock hg (hnewAt (n := X.heap.size + 1) (by simp)) (by simp)
    have hD0 : W0.heap.size < X.heap.size := (Array.getElem?_eq_some_iff.1 HD.out).1
    have HD2 := Lib.hid (gblock hg (show _ = some (Obj.deferred (some [])) by first | exact hold (hset (hold HD.out) (by simp; omega)) | exact hold (hold HD.out)) (by simp))
    have HRY := Lib.hid (gblock hg (show _ = some (Obj.cells #[Value.bool false] 4 (0, 0)) by first | exact hold (hset (hold HRX.out) (by simp; omega)) | exact hold (hold HRX.out)) (by simp))
    have zn2 := bfroz bn2 0
    have hgp : X.grownBy Y0 none := by (refine gtrans ?_ hg; (repeat' (first | (with_reducible exact World.grownBy.refl _ _) | (with_reducible assumption) | (with_reducible refine galloc ?_ _) | (with_reducible refine gdrewN ?_ _) | (with_reducible refine gdrew ?_) | (with_reducible refine gset ?_ (.inl ?_) _) | (with_reducible refine gput ?_ (.inl ?_) _) | (refine gtrans ?_ (by with_reducible assumption)) | omega | (simp; done) | (simp; omega))))
    repeat (have := gcell' hgp ‹World.cell? X _ = some _›; clear ‹World.cell? X _ = some _›)
    try (have := gcell hg (b := X.heap.size) (o := 0) (by go_simp; rfl) (by simp))
    try (have := gcell hg (b := X.heap.size + 1) (o := 0) (by go_simp; rfl) (by simp))
    have hz := hg.size
    try simp at hz
    try (refine claimP (p := X.heap.size < Y0.heap.size) ?_ (fun _ => ?_); · omega)
    try (refine claimP (p := X.heap.size + 1 < Y0.heap.size) ?_ (fun _ => ?_); · omega)
    have g2 : b.grownBy Y0 none := gtrans gX hgp
    clear hg hgp hz
    have ln2 : X.heap.size + 1 < Y0.heap.size := (Array.getElem?_eq_some_iff.1 bn2).1
    have lb2 : b.heap.size ≤ X.heap.size := gX.size
    refine (wpIn_wide (n := 0)).1 ?_
    refine wpIn_range_iter (each Y0 (HN.out.grown (gtrans hb g2))) rfl (enters_of Tryd.func55 (by kernel_rfl) rfl) rfl [X.heap.size + 1]
      (fun i Z => Cnt Y0 (X.heap.size + 1) 3 (.int .i64 (i : Nat)) Z) (fun c Z => False) ?_ ?_ ?_ ?_ ?_ ?_ ?_ ?_ ?_
    · intro k hk
      simp at hk
      subst hk
      exact ⟨ln2, by omega⟩
    · rintro k rfl
      omega
    · intro i Z Y x1 hB
      exact x1.below ln2 hB
    · exact fun _ _ _ h _ => h
    · exact .init bn2
    · intro i args hi
      have h6 : i < 6 := by have := (List.getElem?_eq_some_iff.1 hi).1; simpa [modeL] using this
      rw [modeL_at i h6] at hi
      cases hi
      rfl
    · intro i args Z l hi hJ hl hlX
      have h6 : i < 6 := by have := (List.getElem?_eq_some_iff.1 hi).1; simpa [modeL] using this
      rw [modeL_at i h6] at hi
      cases hi
      have TN := ref.name i h6 w
      obtain ⟨nk, hnk⟩ : ∃ b : ByteArray, nameV i = .string b := ⟨_, rfl⟩
      rw [hnk] at TN ⊢
      clear hnk hJ bn2
      gi_wp2_with fail
      refine ⟨by (repeat' (first | (with_reducible exact World.grownBy.refl _ _) | (with_reducible assumption) | (with_reducible refine galloc ?_ _) | (with_reducible refine gdrewN ?_ _) | (with_reducible refine gdrew ?_) | (with_reducible refine gset ?_ (.inl ?_) _) | (with_reducible refine gput ?_ (.inl ?_) _) | (refine gtrans ?_ (by with_reducible assumption)) | omega | (simp; done) | (simp; omega))), ?_⟩
      intro Z2 hgX hsX hC
      have cn2 := hC.cell
      have zn3 := hC.froz
      have hgb := hC.grown g2 (by omega)
      have i5 : ¬ (5 : Int) < (i : Int) := by omega
      clear ‹Y0.cell? ⟨X.heap.size + 1, 0, none⟩ = some _›
      repeat (have := hC.other ‹World.cell? Y0 _ = some _› (by simp; try omega); clear ‹World.cell? Y0 _ = some _›)
      clear hgX
      gi_wp2_with fail
      refine ⟨trivial, rfl, ?_⟩
      refine (CallsIn.inRound l (callsIn_wide.2 (TN Z2 (by (repeat' (first | (with_reducible exact World.grownBy.refl _ _) | (with_reducible assumption) | (with_reducible refine galloc ?_ _) | (with_reducible refine gdrewN ?_ _) | (with_reducible refine gdrew ?_) | (with_reducible refine gset ?_ (.inl ?_) _) | (with_reducible refine gput ?_ (.inl ?_) _) | (refine gtrans ?_ (by with_reducible assumption)) | omega | (simp; done) | (simp; omega))))))).mono ?_
      rintro e Z3 ⟨rfl, hg3⟩
      have hC3 := hC.grow hg3
      have cn3 := hC3.cell
      have zn4 := hC3.froz
      repeat (have := gcell' hg3 ‹World.cell? Z2 _ = some _›; clear ‹World.cell? Z2 _ = some _›)
      have HC3 := Lib.hid hC3
      have hX := Lib.hid (Oth.ofGrown (ks := [X.heap.size + 1]) hg3 (by simp))
      clear hC hC3 hg3
      gi_wp2_with fail
      exact ⟨hX.out.set (.inl (by simp)) _, by simpa using HC3.out.set⟩
    · intro Z D2 hC hD2 hZD hsz2
      subst hD2
      rw [show modeL.length = 6 from rfl] at hC
      have cn2 := hC.cell
      have gZ := hC.grown g2 (by omega)
      clear ‹Y0.cell? ⟨X.heap.size + 1, 0, none⟩ = some _›
      repeat (have := hC.other ‹World.cell? Y0 _ = some _› (by simp; try omega); clear ‹World.cell? Y0 _ = some _›)
      have rb := hC.oth.same HRY.out (by simp; omega)
      have hZ1 : Z.heap[W0.heap.size]? = some (.deferred (some [])) := hC.oth.same HD2.out (by simp; omega)
      have HZ1 := Lib.hid hZ1
      have HZ2 := Lib.hid hZD
      have HRZ := Lib.hid rb
      clear hC hZ1 hZD bn2 zn2 rb g
      have g := gZ
      go_wp2_with fail
      rw [rounds_succ]
      go_wp2_with fail
      refine Tells.arm (w := w) (b := b) TW hb (by first | with_reducible exact g | (repeat' (first | (with_reducible exact World.grownBy.refl _ _) | (with_reducible assumption) | (with_reducible refine galloc ?_ _) | (with_reducible refine gdrewN ?_ _) | (with_reducible refine gdrew ?_) | (with_reducible refine gset ?_ (.inl ?_) _) | (with_reducible refine gput ?_ (.inl ?_) _) | (refine gtrans ?_ (by with_reducible assumption)) | omega | (simp; done) | (simp; omega)))) (fun V g' hg => ?_)
      have hgp : Z.grownBy V none := by (refine gtrans ?_ hg; (repeat' (first | (with_reducible exact World.grownBy.refl _ _) | (with_reducible assumption) | (with_reducible refine galloc ?_ _) | (with_reducible refine gdrewN ?_ _) | (with_reducible refine gdrew ?_) | (with_reducible refine gset ?_ (.inl ?_) _) | (with_reducible refine gput ?_ (.inl ?_) _) | (refine gtrans ?_ (by with_reducible assumption)) | omega | (simp; done) | (simp; omega))))
      repeat (have := gcell' hgp ‹World.cell? Z _ = some _›; clear ‹World.cell? Z _ = some _›)
      try (have := gcell hg (b := Z.heap.size) (o := 0) (by go_simp; rfl) (by simp))
      have hz := hg.size
      try simp at hz
      try (refine claimP (p := Z.heap.size < V.heap.size) ?_ (fun _ => ?_); · omega)
      have HV1 := Lib.hid (gblock hg (hold HZ1.out) (by simp))
      have HV2 := Lib.hid (gblock hg (hold HZ2.out) (by simp))
      have HV3 := Lib.hid (gblock hg (hold HRZ.out) (by simp))
      clear hg hgp hz
      clear g
      have g := g'
      clear g'
      have zr := bfroz HV3.out 0
      go_wp2_with fail
      have hDD : Y0.heap.size ≠ W0.heap.size := by omega
      have hRD : w1.heap.size + 1 ≠ W0.heap.size := by omega
      have hRD2 : w1.heap.size + 1 ≠ Y0.heap.size := by omega
      have k2 : (V.setCell ⟨w1.heap.size + 1, 0, none⟩ (.bool true)).heap[Y0.heap.size]? = some (.deferred (some [])) := hset HV2.out (by simp; omega)
      have k1 : ((V.setCell ⟨w1.heap.size + 1, 0, none⟩ (.bool true)).putObj Y0.heap.size (.deferred none)).heap[W0.heap.size]? = some (.deferred (some [])) := hput (hset HV1.out (by simp; omega)) (by omega)
      refine ⟨by simp, .inl ⟨_, _, rfl, run_takeDeferred k2, ?_⟩⟩
      refine ⟨by simp, .inl ⟨_, _, rfl, run_takeDeferred k1, ?_⟩⟩
      have rt : ((V.setCell ⟨w1.heap.size + 1, 0, none⟩ (.bool true)).putObj Y0.heap.size (.deferred none)).heap[w1.heap.size + 1]? = some (.cells #[.bool true] 4 (0, 0)) := hput (by simpa using bset HV3.out 0 (.bool true)) (by omega)
      have rt2 := bcell (hput (l := W0.heap.size) (o := .deferred none) rt (by omega)) 0
      simp at rt2
      refine ⟨.bool true, by simp [results, Tryd.results6, go_sem, rt2], ?_⟩
      exact ⟨rfl, by (repeat' (first | (with_reducible exact World.grownBy.refl _ _) | (with_reducible assumption) | (with_reducible refine galloc ?_ _) | (with_reducible refine gdrewN ?_ _) | (with_reducible refine gdrew ?_) | (with_reducible refine gset ?_ (.inl ?_) _) | (with_reducible refine gput ?_ (.inl ?_) _) | (refine gtrans ?_ (by with_reducible assumption)) | omega | (simp; done) | (simp; omega)))⟩
    · intro c Z D2 h
      exact h.elim
  · intro c X D hK hD hXD hsz
    subst hD
    obtain ⟨i, rfl, hC, hi1, hi2, hi3, hi4⟩ := hK
    have cn := hC.cell
    have gX := hC.grown g0 (by omega)
    clear ‹W0.cell? ⟨w2.heap.size + 1, 0, none⟩ = some _›
    repeat (have := hC.other ‹World.cell? W0 _ = some _› (by simp; try omega); clear ‹World.cell? W0 _ = some _›)
    have HC := Lib.hid hC
    have HD := Lib.hid hXD
    have HRX := Lib.hid (hC.oth.same HR0.out (by simp; omega))
    refine wpIn_exit ?_
    have i6 : (i : Int) ≤ 6 := by omega
    have i1 : (1 : Int) ≤ i := by omega
    clear hC hXD bn bt zn
    go_wp2_with fail
    all_goals
      rw [rounds_succ]
      go_wp2_with fail
      refine at_world' (fun Y0 hg => ?_)
      have bn2 := gblock hg (hnewAt (n := X.heap.size + 1) (by simp)) (by simp)
      have hD0 : W0.heap.size < X.heap.size := (Array.getElem?_eq_some_iff.1 HD.out).1
      have HD2 := Lib.hid (gblock hg (show _ = some (Obj.deferred (some [])) by first | exact hold (hset (hold HD.out) (by simp; omega)) | exact hold (hold HD.out)) (by simp))
      have HRY := Lib.hid (gblock hg (show _ = some (Obj.cells #[Value.bool false] 4 (0, 0)) by first | exact hold (hset (hold HRX.out) (by simp; omega)) | exact hold (hold HRX.out)) (by simp))
      have zn2 := bfroz bn2 0
      have hgp : X.grownBy Y0 none := by (refine gtrans ?_ hg; (repeat' (first | (with_reducible exact World.grownBy.refl _ _) | (with_reducible assumption) | (with_reducible refine galloc ?_ _) | (with_reducible refine gdrewN ?_ _) | (with_reducible refine gdrew ?_) | (with_reducible refine gset ?_ (.inl ?_) _) | (with_reducible refine gput ?_ (.inl ?_) _) | (refine gtrans ?_ (by with_reducible assumption)) | omega | (simp; done) | (simp; omega))))
      repeat (have := gcell' hgp ‹World.cell? X _ = some _›; clear ‹World.cell? X _ = some _›)
      try (have := gcell hg (b := X.heap.size) (o := 0) (by go_simp; rfl) (by simp))
      try (have := gcell hg (b := X.heap.size + 1) (o := 0) (by go_simp; rfl) (by simp))
      have hz := hg.size
      try simp at hz
      try (refine claimP (p := X.heap.size < Y0.heap.size) ?_ (fun _ => ?_); · omega)
      try (refine claimP (p := X.heap.size + 1 < Y0.heap.size) ?_ (fun _ => ?_); · omega)
      have g2 : b.grownBy Y0 none := gtrans gX hgp
      clear hg hgp hz
      have ln2 : X.heap.size + 1 < Y0.heap.size := (Array.getElem?_eq_some_iff.1 bn2).1
      have lb2 : b.heap.size ≤ X.heap.size := gX.size
      refine (wpIn_wide (n := 0)).1 ?_
      refine wpIn_range_iter (each Y0 (HN.out.grown (gtrans hb g2))) rfl (enters_of Tryd.func55 (by kernel_rfl) rfl) rfl [X.heap.size + 1]
        (fun i Z => Cnt Y0 (X.heap.size + 1) 3 (.int .i64 (i : Nat)) Z) (fun c Z => False) ?_ ?_ ?_ ?_ ?_ ?_ ?_ ?_ ?_
      · intro k hk
        simp at hk
        subst hk
        exact ⟨ln2, by omega⟩
      · rintro k rfl
        omega
      · intro i Z Y x1 hB
        exact x1.below ln2 hB
      · exact fun _ _ _ h _ => h
      · exact .init bn2
      · intro i args hi
        have h6 : i < 6 := by have := (List.getElem?_eq_some_iff.1 hi).1; simpa [modeL] using this
        rw [modeL_at i h6] at hi
        cases hi
        rfl
      · intro i args Z l hi hJ hl hlX
        have h6 : i < 6 := by have := (List.getElem?_eq_some_iff.1 hi).1; simpa [modeL] using this
        rw [modeL_at i h6] at hi
        cases hi
        have TN := ref.name i h6 w
        obtain ⟨nk, hnk⟩ : ∃ b : ByteArray, nameV i = .string b := ⟨_, rfl⟩
        rw [hnk] at TN ⊢
        clear hnk hJ bn2
        gi_wp2_with fail
        refine ⟨by (repeat' (first | (with_reducible exact World.grownBy.refl _ _) | (with_reducible assumption) | (with_reducible refine galloc ?_ _) | (with_reducible refine gdrewN ?_ _) | (with_reducible refine gdrew ?_) | (with_reducible refine gset ?_ (.inl ?_) _) | (with_reducible refine gput ?_ (.inl ?_) _) | (refine gtrans ?_ (by with_reducible assumption)) | omega | (simp; done) | (simp; omega))), ?_⟩
        intro Z2 hgX hsX hC
        have cn2 := hC.cell
        have zn3 := hC.froz
        have hgb := hC.grown g2 (by omega)
        have i5 : ¬ (5 : Int) < (i : Int) := by omega
        clear ‹Y0.cell? ⟨X.heap.size + 1, 0, none⟩ = some _›
        repeat (have := hC.other ‹World.cell? Y0 _ = some _› (by simp; try omega); clear ‹World.cell? Y0 _ = some _›)
        clear hgX
        gi_wp2_with fail
        refine ⟨trivial, rfl, ?_⟩
        refine (CallsIn.inRound l (callsIn_wide.2 (TN Z2 (by (repeat' (first | (with_reducible exact World.grownBy.refl _ _) | (with_reducible assumption) | (with_reducible refine galloc ?_ _) | (with_reducible refine gdrewN ?_ _) | (with_reducible refine gdrew ?_) | (with_reducible refine gset ?_ (.inl ?_) _) | (with_reducible refine gput ?_ (.inl ?_) _) | (refine gtrans ?_ (by with_reducible assumption)) | omega | (simp; done) | (simp; omega))))))).mono ?_
        rintro e Z3 ⟨rfl, hg3⟩
        have hC3 := hC.grow hg3
        have cn3 := hC3.cell
        have zn4 := hC3.froz
        repeat (have := gcell' hg3 ‹World.cell? Z2 _ = some _›; clear ‹World.cell? Z2 _ = some _›)
        have HC3 := Lib.hid hC3
        have hX := Lib.hid (Oth.ofGrown (ks := [X.heap.size + 1]) hg3 (by simp))
        clear hC hC3 hg3
        gi_wp2_with fail
        exact ⟨hX.out.set (.inl (by simp)) _, by simpa using HC3.out.set⟩
      · intro Z D2 hC hD2 hZD hsz2
        subst hD2
        rw [show modeL.length = 6 from rfl] at hC
        have cn2 := hC.cell
        have gZ := hC.grown g2 (by omega)
        clear ‹Y0.cell? ⟨X.heap.size + 1, 0, none⟩ = some _›
        repeat (have := hC.other ‹World.cell? Y0 _ = some _› (by simp; try omega); clear ‹World.cell? Y0 _ = some _›)
        have rb := hC.oth.same HRY.out (by simp; omega)
        have hZ1 : Z.heap[W0.heap.size]? = some (.deferred (some [])) := hC.oth.same HD2.out (by simp; omega)
        have HZ1 := Lib.hid hZ1
        have HZ2 := Lib.hid hZD
        have HRZ := Lib.hid rb
        clear hC hZ1 hZD bn2 zn2 rb g
        have g := gZ
        go_wp2_with fail
        rw [rounds_succ]
        go_wp2_with fail
        refine Tells.arm (w := w) (b := b) TW hb (by first | with_reducible exact g | (repeat' (first | (with_reducible exact World.grownBy.refl _ _) | (with_reducible assumption) | (with_reducible refine galloc ?_ _) | (with_reducible refine gdrewN ?_ _) | (with_reducible refine gdrew ?_) | (with_reducible refine gset ?_ (.inl ?_) _) | (with_reducible refine gput ?_ (.inl ?_) _) | (refine gtrans ?_ (by with_reducible assumption)) | omega | (simp; done) | (simp; omega)))) (fun V g' hg => ?_)
        have hgp : Z.grownBy V none := by (refine gtrans ?_ hg; (repeat' (first | (with_reducible exact World.grownBy.refl _ _) | (with_reducible assumption) | (with_reducible refine galloc ?_ _) | (with_reducible refine gdrewN ?_ _) | (with_reducible refine gdrew ?_) | (with_reducible refine gset ?_ (.inl ?_) _) | (with_reducible refine gput ?_ (.inl ?_) _) | (refine gtrans ?_ (by with_reducible assumption)) | omega | (simp; done) | (simp; omega))))
        repeat (have := gcell' hgp ‹World.cell? Z _ = some _›; clear ‹World.cell? Z _ = some _›)
        try (have := gcell hg (b := Z.heap.size) (o := 0) (by go_simp; rfl) (by simp))
        have hz := hg.size
        try simp at hz
        try (refine claimP (p := Z.heap.size < V.heap.size) ?_ (fun _ => ?_); · omega)
        have HV1 := Lib.hid (gblock hg (hold HZ1.out) (by simp))
        have HV2 := Lib.hid (gblock hg (hold HZ2.out) (by simp))
        have HV3 := Lib.hid (gblock hg (hold HRZ.out) (by simp))
        clear hg hgp hz
        clear g
        have g := g'
        clear g'
        have zr := bfroz HV3.out 0
        go_wp2_with fail
        have hDD : Y0.heap.size ≠ W0.heap.size := by omega
        have hRD : w1.heap.size + 1 ≠ W0.heap.size := by omega
        have hRD2 : w1.heap.size + 1 ≠ Y0.heap.size := by omega
        have k2 : (V.setCell ⟨w1.heap.size + 1, 0, none⟩ (.bool true)).heap[Y0.heap.size]? = some (.deferred (some [])) := hset HV2.out (by simp; omega)
        have k1 : ((V.setCell ⟨w1.heap.size + 1, 0, none⟩ (.bool true)).putObj Y0.heap.size (.deferred none)).heap[W0.heap.size]? = some (.deferred (some [])) := hput (hset HV1.out (by simp; omega)) (by omega)
        refine ⟨by simp, .inl ⟨_, _, rfl, run_takeDeferred k2, ?_⟩⟩
        refine ⟨by simp, .inl ⟨_, _, rfl, run_takeDeferred k1, ?_⟩⟩
        have rt : ((V.setCell ⟨w1.heap.size + 1, 0, none⟩ (.bool true)).putObj Y0.heap.size (.deferred none)).heap[w1.heap.size + 1]? = some (.cells #[.bool true] 4 (0, 0)) := hput (by simpa using bset HV3.out 0 (.bool true)) (by omega)
        have rt2 := bcell (hput (l := W0.heap.size) (o := .deferred none) rt (by omega)) 0
        simp at rt2
        refine ⟨.bool true, by simp [results, Tryd.results6, go_sem, rt2], ?_⟩
        exact ⟨rfl, by (repeat' (first | (with_reducible exact World.grownBy.refl _ _) | (with_reducible assumption) | (with_reducible refine galloc ?_ _) | (with_reducible refine gdrewN ?_ _) | (with_reducible refine gdrew ?_) | (with_reducible refine gset ?_ (.inl ?_) _) | (with_reducible refine gput ?_ (.inl ?_) _) | (refine gtrans ?_ (by with_reducible assumption)) | omega | (simp; done) | (simp; omega)))⟩
      · intro c Z D2 h
        exact h.elim
end Go.Proofs.YtgcejfcfaaidhaaDoor
