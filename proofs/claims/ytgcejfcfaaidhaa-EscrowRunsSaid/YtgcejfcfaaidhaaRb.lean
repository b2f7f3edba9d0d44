/- The law EscrowRuns returns true at every counter and list of changes, and leaves them as they were. No condition. -/
import Derived.Test.YtgcejfcfaaidhaaRa
import Derived.Laws.AppendOwnNone
set_option linter.unusedSimpArgs false
set_option linter.unusedVariables false
namespace Go.Proofs.Ytgcejfcfaaidhaa.runs
open Go.ChangeShapes Go.WideShapes Go.ChangeAt Go.RowKit Go.Joins
open Go.Proofs.Ytgcejfcfaaidhaa.refs Go.Proofs.Ytgcejfcfaaidhaa.changes Go.Proofs.Ytgcejfcfaaidhaa.holds

/-- Append onto a row of the call's own; the source nil or not. -/
theorem append_src {P : Program} {w : World} {ops : Array Oper} {rest : List Oper} {o : Oper} {a : Act} {Q : Exit → Act → World → Prop} (hgd : o.guard = none) (s x : Operand) (t : TypeId)
    (ho : o.op = .call { callee := .builtin .append, args := #[s, x], argTypes := #[t, t] })
    (base : Nat) (e : TypeId) (i : TypeInfo) (z : Value) (bytes : Nat) (ht : P.underlying t = some (.slice e)) (hi : P.info? e = some i) (hz : i.zero = some z)
    (hsize : i.size = 1) (hby : i.bytes = bytes) (hzs : z.cells.size = 1)
    (v : Value) (n : Nat) (xs : List Value) (hs : a.eval s = v) (hown : w.ownsRow base e 1 v n xs)
    (ao : Option Addr) (m c : Nat) (news : List Value) (hx : a.eval x = .slice ao m c) (hl : news.length = m) (hno : ao = none → m = 0 ∧ c = 0)
    (hnews : ∀ ad, ao = some ad → ∀ j u, news[j]? = some u → w.cell? (ad.add j) = some u) (h1 : ∀ u ∈ news, u.oneCell' = true)
    (h63 : n + m ≤ maxLen) (hbytes : (n + m) * bytes ≤ 140737488355328) (hbase : base ≤ w.heap.size)
    (h : ∀ v' w', w'.ownsRow base e 1 v' (n + m) (xs ++ news) → w.grownBy w' v.ownBlock → wpList P ops Q rest (a.put o.dst v') w') :
    wpList P ops Q (o :: rest) a w := by
  rcases ao with _ | ad
  · obtain ⟨rfl, rfl⟩ := hno rfl
    obtain rfl : news = [] := List.eq_nil_of_length_eq_zero hl
    exact wpList_append_own_none hgd s x t ho base e i 1 ht hi v n xs hs hown hx (h v w (by simpa using hown) (World.grownBy.refl _ _))
  · exact wpList_append_own_at w hgd s x t ho base e i z 1 bytes ht hi hz hsize hby hzs (by decide) v n xs hs hown ad m c news hx (by simpa using hl) (hnews ad rfl) h1 h63 hbytes hbase (fun v' w' h2 h3 _ _ => h v' w' h2 h3)

theorem lit_at {X : World} {B base : Nat} {e : TypeId} {size : Nat} (cs : Array Value) (n : Nat) (h : X.heap.size = B) (hb : base ≤ B) (hm : n ≤ maxLen) (hs : cs.size = n * size) :
    (X.alloc (.cells cs e)).ownsRow base e size (.slice (some ⟨B, 0, none⟩) n n) n cs.toList := by
  subst h
  exact World.ownsRow_lit X cs n hb hm hs

theorem form2 {w : World} {base : Nat} {e : TypeId} {v : Value} {n : Nat} {xs : List Value} (h : w.ownsRow base e 1 v (n + 1) xs) :
    ∃ g cap, v = .slice (some ⟨g, 0, none⟩) (n + 1) cap ∧ base ≤ g ∧ g < w.heap.size ∧ n + 1 ≤ cap ∧ (∀ j, j < n + 1 → w.cell? ⟨g, j, none⟩ = xs[j]?) := by
  obtain ⟨g, cap, rfl, hb, hg⟩ := h.form (by omega)
  refine ⟨g, cap, rfl, hb, hg, ?_, fun j hj => h.cellAt j (by omega)⟩
  rcases h.2 with ⟨h', _⟩ | ⟨g', cap', cur, h', _, _, hc, _⟩
  · simp at h'
  · simp only [Value.slice.injEq] at h'
    omega

theorem Try.info2 : (Try.prog.info? 2).map (fun i => (i.zero, i.size, i.bytes)) = some (some (.int .i64 0), 1, 8) := by kernel_rfl

set_option maxRecDepth 100000 in
set_option maxHeartbeats 4000000 in
theorem walk_bad (v f n : Int) (sb so cap : Nat) (ao : Option Addr) (zs : List Int) (w : World) (hB : Bd v f n) (hlen : zs.length ≤ 50) (hno : ao = none → zs.length = 0 ∧ cap = 0)
    (hz : ∀ k, k < zs.length → ao = some ⟨sb, so, none⟩ ∧ w.cell? ⟨sb, so + k, none⟩ = some (.int .i64 (zs.getD k 0)) ∧ -9223372036854775808 ≤ zs.getD k 0 ∧ zs.getD k 0 ≤ 9223372036854775807)
    (hr : rightB v f n = false) :
    Calls Try.prog 5 #[.agg #[.int .i64 v, .int .i64 f, .int .u64 n], .slice ao zs.length cap] w fun e w' => e = .returned (.bool true) ∧ w.grownBy w' none := by
  obtain ⟨i0, hi, hz0, hz1, hz2⟩ := info_parts Try.info2
  have hnews : ∀ (W : World), w.grownBy W none → ∀ ad, ao = some ad → ∀ j u, (zs.map (Value.int .i64))[j]? = some u → W.cell? (ad.add j) = some u := by
    intro W hW ad had j u hu
    have hj : j < zs.length := by
      have := (List.getElem?_eq_some_iff.1 hu).1
      simpa using this
    obtain ⟨rfl', hc, _⟩ := hz j hj
    rw [rfl'] at had
    injection had with had
    subst had
    have hu' : u = .int .i64 (zs.getD j 0) := by
      rw [List.getElem?_map, List.getElem?_eq_getElem hj] at hu
      simp [List.getD, List.getElem?_eq_getElem hj] at hu ⊢
      exact hu.symm
    rw [hu', add_plain]
    exact gcell hW hc (by simp)
  have HN := Lib.hid hnews
  have HZ := Lib.hid hz
  have RB0 : ∀ (m c : Nat) (a : Option Addr) (W : World), Calls Try.prog 20 #[.agg #[.int .i64 v, .int .i64 f, .int .u64 n], .slice a m c] W fun e w' => e = .returned (.tuple #[.agg #[.int .i64 0, .int .i64 0, .int .u64 0], .int .i64 0, .int .i64 2]) ∧ W.grownBy w' none :=
    fun m c a W => run_bad v f n m c a W (rightB_f hr)
  have RB := Lib.hid RB0
  clear RB0
  have RR := fun W => spares.refRight v f n W
  rw [hr] at RR
  have RR' := Lib.hid RR
  clear hnews hz RR
  go_enter Try.func5, Try.ntmps5
  go_wp2_with
    first
      | (at_builtin
         refine append_src (o := ⟨some 18, _, _, _, _, _⟩) rfl _ _ 38 rfl (w.heap.size + 1) 2 i0 (.int .i64 0) 8 Try.underlying38 hi hz0 hz1 hz2 rfl _ 0 [] rfl ?_ ao zs.length cap (zs.map (Value.int .i64)) rfl (by simp) hno ?_ (ints_oneCell .i64 zs) ?_ ?_ ?_ ?_
         · exact lit_at #[] 0 (by simp) (by omega) (by decide) (by simp)
         · exact HN.out _ (galloc (galloc (World.grownBy.refl _ _) _) _)
         · unfold maxLen
           omega
         · omega
         · simp
         intro v1 w1 hown1 hg1)
      | (at_builtin
         refine append_src (o := ⟨some 20, _, _, _, _, _⟩) rfl _ _ 38 rfl (w.heap.size + 1) 2 i0 (.int .i64 0) 8 Try.underlying38 hi hz0 hz1 hz2 rfl _ zs.length (zs.map (Value.int .i64)) rfl ?_ (some ⟨w1.heap.size, 0, none⟩) 1 1 [.int .i64 77] rfl rfl ?_ ?_ (ints_oneCell .i64 [77]) ?_ ?_ ?_ ?_
         · have H := hown1
           simp only [Nat.zero_add, List.nil_append] at H
           exact H.alloc _
         · exact fun h => absurd h (by simp)
         · intro ad had
           injection had with had
           subst had
           exact cell_one_new _ _ _
         · unfold maxLen
           omega
         · omega
         · have := hg1.size
           simp at this ⊢
           omega
         intro v2 w2 hown2 hg2
         have hob1 : ∀ g, v1.ownBlock = some g → w.heap.size + 1 ≤ g := fun g hg => (hown1.lt g hg).1
         have hg1' : ((w.alloc (.cells #[.int .i64 v, .int .i64 f, .int .u64 n] 24)).alloc (.cells #[] 2)).grownBy w1 (some (w.heap.size + 1)) := hg1
         have hg2' : (w1.alloc (.cells #[.int .i64 77] 2)).grownBy w2 v1.ownBlock := hg2
         have ga : w.grownBy w1 none := gown (galloc (galloc (World.grownBy.refl _ _) _) _) hg1' (fun g h => by injection h with h; omega)
         have gb : w.grownBy w2 none := gown (galloc ga _) hg2' (fun g h => Nat.le_of_succ_le (hob1 g h))
         have hbw : w1.heap[w.heap.size]? = some (.cells #[.int .i64 v, .int .i64 f, .int .u64 n] 24 (0, 0)) := gblock hg1' (hold (hnew w _)) (fun h => by injection h with h; omega)
         have hbx : w2.heap[w.heap.size]? = some (.cells #[.int .i64 v, .int .i64 f, .int .u64 n] 24 (0, 0)) := gblock hg2' (hold hbw) (fun h => by have := hob1 _ h.symm; omega)
         have c0 : w2.cell? ⟨w.heap.size, 0, none⟩ = some (.int .i64 v) := (bcell hbx 0).trans rfl
         have c1 : w2.cell? ⟨w.heap.size, 1, none⟩ = some (.int .i64 f) := (bcell hbx 1).trans rfl
         have c2 : w2.cell? ⟨w.heap.size, 2, none⟩ = some (.int .u64 n) := (bcell hbx 2).trans rfl
         obtain ⟨g, cap2, rfl, hgB, hgl, hgc, hcells⟩ := form2 hown2
         have HC := Lib.hid hcells
         have sz : w.heap.size + 1 < w2.heap.size := by omega
         clear hg1 hg2 hg1' hg2' hob1 hown1 hown2 hbw hbx ga hcells)
  refine (RB.out _ _ _ _).mono ?_
  rintro e w3 ⟨rfl, hg⟩
  have g3 : w.grownBy w3 none := gtrans gb hg
  have c0 : w3.cell? ⟨w.heap.size, 0, none⟩ = some (.int .i64 v) := hg.cell c0 (by simp)
  have c1 : w3.cell? ⟨w.heap.size, 1, none⟩ = some (.int .i64 f) := hg.cell c1 (by simp)
  have c2 : w3.cell? ⟨w.heap.size, 2, none⟩ = some (.int .u64 n) := hg.cell c2 (by simp)
  have cl3 : w.heap.size < w3.heap.size := by have := hg.size; omega
  have cm3 : w.heap.size < w3.heap.size + 1 := by omega
  clear hg gb
  go_wp2_with fail
  refine (RR'.out _).mono ?_
  rintro e w4 ⟨rfl, hg⟩
  have g4 : w.grownBy w4 none := by refine gtrans ?_ hg; (repeat' (first | (with_reducible exact World.grownBy.refl _ _) | (with_reducible assumption) | (with_reducible refine galloc ?_ _) | (with_reducible refine gdrewN ?_ _) | (with_reducible refine gset ?_ (.inl (by simp; try omega)) _)))
  have b0 : w4.cell? ⟨w3.heap.size, 0, none⟩ = some (.int .i64 0) := hg.cell (by go_simp) (by simp)
  have b1 : w4.cell? ⟨w3.heap.size, 1, none⟩ = some (.int .i64 0) := hg.cell (by go_simp) (by simp)
  have b2 : w4.cell? ⟨w3.heap.size, 2, none⟩ = some (.int .u64 0) := hg.cell (by go_simp) (by simp)
  clear hg
  go_wp2_with (first | (go_at_call 14; refine (num_any _ _ (by omega) (by omega)).mono ?_; rintro e w' ⟨rfl, rfl⟩) | (go_at_call 17; refine (works_any _).mono ?_; rintro e w7 ⟨rfl, hg7⟩))
  go_ret
  exact ⟨rfl, gtrans g4 hg7⟩
theorem runS_er (f : Int) : ∀ (zs : List Int) (v n d : Int), 0 ≤ (runS f v n d zs).2.2.2 ∧ (runS f v n d zs).2.2.2 ≤ 142
  | [], v, n, d => by simp [runS]
  | k :: ks, v, n, d => by
    unfold runS
    split
    · exact runS_er f ks _ _ _
    · exact moveE_range _ v f n _

set_option maxRecDepth 100000 in
set_option maxHeartbeats 4000000 in
theorem walk_good (v f n : Int) (sb so cap : Nat) (ao : Option Addr) (zs : List Int) (w : World) (hB : Bd v f n) (hlen : zs.length ≤ 50) (hno : ao = none → zs.length = 0 ∧ cap = 0)
    (hz : ∀ k, k < zs.length → ao = some ⟨sb, so, none⟩ ∧ w.cell? ⟨sb, so + k, none⟩ = some (.int .i64 (zs.getD k 0)) ∧ -9223372036854775808 ≤ zs.getD k 0 ∧ zs.getD k 0 ≤ 9223372036854775807)
    (hr : rightB v f n = true) (hsb : sb < w.heap.size ∨ zs = []) :
    Calls Try.prog 5 #[.agg #[.int .i64 v, .int .i64 f, .int .u64 n], .slice ao zs.length cap] w fun e w' => e = .returned (.bool true) ∧ w.grownBy w' none := by
  obtain ⟨i0, hi, hz0, hz1, hz2⟩ := info_parts Try.info2
  have hnews : ∀ (W : World), w.grownBy W none → ∀ ad, ao = some ad → ∀ j u, (zs.map (Value.int .i64))[j]? = some u → W.cell? (ad.add j) = some u := by
    intro W hW ad had j u hu
    have hj : j < zs.length := by
      have := (List.getElem?_eq_some_iff.1 hu).1
      simpa using this
    obtain ⟨rfl', hc, _⟩ := hz j hj
    rw [rfl'] at had
    injection had with had
    subst had
    have hu' : u = .int .i64 (zs.getD j 0) := by
      rw [List.getElem?_map, List.getElem?_eq_getElem hj] at hu
      simp [List.getD, List.getElem?_eq_getElem hj] at hu ⊢
      exact hu.symm
    rw [hu', add_plain]
    exact gcell hW hc (by simp)
  have HN := Lib.hid hnews
  have HZ := Lib.hid hz
  have RG0 : ∀ (g c : Nat) (W : World), g < W.heap.size → (∀ k, k < zs.length → W.cell? ⟨g, k, none⟩ = some (.int .i64 (zs.getD k 0))) → Calls Try.prog 20 #[.agg #[.int .i64 v, .int .i64 f, .int .u64 n], .slice (some ⟨g, 0, none⟩) zs.length c] W fun e w' => e = .returned (runV f (runS f v n 0 zs)) ∧ W.grownBy w' none :=
    fun g c W hg hc => run_good v f n g 0 c (some ⟨g, 0, none⟩) zs W hB (rightB_t hr) (by omega) (.inl hg) (fun k hk => ⟨rfl, by rw [Nat.zero_add]; exact hc k hk, (hz k hk).2.2⟩)
  have RA0 : ∀ (W : World), w.grownBy W none → Calls Try.prog 21 #[.agg #[.int .i64 v, .int .i64 f, .int .u64 n], .slice ao zs.length cap] W fun e w' => ∃ (vo : Value) (k : Nat) (v' n' : Int) (xs : List Value) (er : Int),
      e = .returned (.tuple #[vo, .int .i64 er]) ∧ W.grownBy w' none ∧ w'.ownsRow (W.heap.size + 1) 24 3 vo k xs ∧ runS f v n 0 zs = (v', n', (k : Int), er) ∧ Last v' f n' v n k xs ∧ xs = sts f v n zs :=
    fun W hW => run_any v f n sb so cap ao zs W hB (by omega) (hsb.imp (fun h => Nat.lt_of_lt_of_le h hW.size) id) (fun k hk => ⟨(hz k hk).1, gcell hW (hz k hk).2.1 (by simp), (hz k hk).2.2⟩)
  have her := runS_er f zs v n 0
  generalize hR : runS f v n 0 zs = R at RG0 RA0 her
  obtain ⟨x, y, d, er⟩ := R
  have RG1 : ∀ (g c : Nat) (W : World), g < W.heap.size → (∀ k, k < zs.length → W.cell? ⟨g, k, none⟩ = some (.int .i64 (zs.getD k 0))) → Calls Try.prog 20 #[.agg #[.int .i64 v, .int .i64 f, .int .u64 n], .slice (some ⟨g, 0, none⟩) zs.length c] W fun e w' => e = .returned (.tuple #[.agg #[.int .i64 x, .int .i64 f, .int .u64 y], .int .i64 d, .int .i64 er]) ∧ W.grownBy w' none := RG0
  have RG := Lib.hid RG1
  have RA := Lib.hid RA0
  obtain ⟨er0, er1⟩ := her
  simp only at er0 er1
  clear RG0 RG1 RA0 hR hsb
  have RR := fun W => spares.refRight v f n W
  rw [hr] at RR
  have RR' := Lib.hid RR
  clear hnews hz RR
  go_enter Try.func5, Try.ntmps5
  go_wp2_with
    first
      | (at_builtin
         refine append_src (o := ⟨some 18, _, _, _, _, _⟩) rfl _ _ 38 rfl (w.heap.size + 1) 2 i0 (.int .i64 0) 8 Try.underlying38 hi hz0 hz1 hz2 rfl _ 0 [] rfl ?_ ao zs.length cap (zs.map (Value.int .i64)) rfl (by simp) hno ?_ (ints_oneCell .i64 zs) ?_ ?_ ?_ ?_
         · exact lit_at #[] 0 (by simp) (by omega) (by decide) (by simp)
         · exact HN.out _ (galloc (galloc (World.grownBy.refl _ _) _) _)
         · unfold maxLen
           omega
         · omega
         · simp
         intro v1 w1 hown1 hg1)
      | (at_builtin
         refine append_src (o := ⟨some 20, _, _, _, _, _⟩) rfl _ _ 38 rfl (w.heap.size + 1) 2 i0 (.int .i64 0) 8 Try.underlying38 hi hz0 hz1 hz2 rfl _ zs.length (zs.map (Value.int .i64)) rfl ?_ (some ⟨w1.heap.size, 0, none⟩) 1 1 [.int .i64 77] rfl rfl ?_ ?_ (ints_oneCell .i64 [77]) ?_ ?_ ?_ ?_
         · have H := hown1
           simp only [Nat.zero_add, List.nil_append] at H
           exact H.alloc _
         · exact fun h => absurd h (by simp)
         · intro ad had
           injection had with had
           subst had
           exact cell_one_new _ _ _
         · unfold maxLen
           omega
         · omega
         · have := hg1.size
           simp at this ⊢
           omega
         intro v2 w2 hown2 hg2
         have hob1 : ∀ g, v1.ownBlock = some g → w.heap.size + 1 ≤ g := fun g hg => (hown1.lt g hg).1
         have hg1' : ((w.alloc (.cells #[.int .i64 v, .int .i64 f, .int .u64 n] 24)).alloc (.cells #[] 2)).grownBy w1 (some (w.heap.size + 1)) := hg1
         have hg2' : (w1.alloc (.cells #[.int .i64 77] 2)).grownBy w2 v1.ownBlock := hg2
         have ga : w.grownBy w1 none := gown (galloc (galloc (World.grownBy.refl _ _) _) _) hg1' (fun g h => by injection h with h; omega)
         have gb : w.grownBy w2 none := gown (galloc ga _) hg2' (fun g h => Nat.le_of_succ_le (hob1 g h))
         have hbw : w1.heap[w.heap.size]? = some (.cells #[.int .i64 v, .int .i64 f, .int .u64 n] 24 (0, 0)) := gblock hg1' (hold (hnew w _)) (fun h => by injection h with h; omega)
         have hbx : w2.heap[w.heap.size]? = some (.cells #[.int .i64 v, .int .i64 f, .int .u64 n] 24 (0, 0)) := gblock hg2' (hold hbw) (fun h => by have := hob1 _ h.symm; omega)
         have c0 : w2.cell? ⟨w.heap.size, 0, none⟩ = some (.int .i64 v) := (bcell hbx 0).trans rfl
         have c1 : w2.cell? ⟨w.heap.size, 1, none⟩ = some (.int .i64 f) := (bcell hbx 1).trans rfl
         have c2 : w2.cell? ⟨w.heap.size, 2, none⟩ = some (.int .u64 n) := (bcell hbx 2).trans rfl
         obtain ⟨g, cap2, rfl, hgB, hgl, hgc, hcells⟩ := form2 hown2
         have HC := Lib.hid hcells
         have sz : w.heap.size + 1 < w2.heap.size := by omega
         clear hg1 hg2 hg1' hg2' hob1 hown1 hown2 hbw hbx ga hcells)
  have hcz : ∀ k, k < zs.length → w2.cell? ⟨g, k, none⟩ = some (.int .i64 (zs.getD k 0)) := fun k hk => by
    rw [HC.out k (by omega), List.getElem?_append_left (by simpa using hk), List.getElem?_map, List.getElem?_eq_getElem hk]
    simp [List.getD, List.getElem?_eq_getElem hk]
  have h77 : w2.cell? ⟨g, zs.length, none⟩ = some (.int .i64 77) := by
    rw [HC.out _ (by omega), List.getElem?_append_right (by simp)]
    simp
  refine (RG.out _ _ _ hgl hcz).mono ?_
  clear hcz
  rintro e w3 ⟨rfl, hg⟩
  have g3 : w.grownBy w3 none := gtrans gb hg
  have c0 : w3.cell? ⟨w.heap.size, 0, none⟩ = some (.int .i64 v) := hg.cell c0 (by simp)
  have c1 : w3.cell? ⟨w.heap.size, 1, none⟩ = some (.int .i64 f) := hg.cell c1 (by simp)
  have c2 : w3.cell? ⟨w.heap.size, 2, none⟩ = some (.int .u64 n) := hg.cell c2 (by simp)
  have h77 : w3.cell? ⟨g, zs.length, none⟩ = some (.int .i64 77) := hg.cell h77 (by simp)
  have cl3 : w.heap.size < w3.heap.size := by have := hg.size; omega
  have cm3 : w.heap.size < w3.heap.size + 1 := by omega
  have gl3 : g < w3.heap.size := by have := hg.size; omega
  have gm3 : g < w3.heap.size + 1 := by omega
  clear hg gb
  go_wp2_with fail
  refine (RR'.out _).mono ?_
  rintro e w4 ⟨rfl, hg⟩
  have g4 : w.grownBy w4 none := by refine gtrans ?_ hg; (repeat' (first | (with_reducible exact World.grownBy.refl _ _) | (with_reducible assumption) | (with_reducible refine galloc ?_ _) | (with_reducible refine gdrewN ?_ _) | (with_reducible refine gset ?_ (.inl (by simp; try omega)) _)))
  have b0 : w4.cell? ⟨w3.heap.size, 0, none⟩ = some (.int .i64 x) := hg.cell (by go_simp) (by simp)
  have b1 : w4.cell? ⟨w3.heap.size, 1, none⟩ = some (.int .i64 f) := hg.cell (by go_simp) (by simp)
  have b2 : w4.cell? ⟨w3.heap.size, 2, none⟩ = some (.int .u64 y) := hg.cell (by go_simp) (by simp)
  have c0 : w4.cell? ⟨w.heap.size, 0, none⟩ = some (.int .i64 v) := hg.cell (by go_simp) (by simp)
  have c1 : w4.cell? ⟨w.heap.size, 1, none⟩ = some (.int .i64 f) := hg.cell (by go_simp) (by simp)
  have c2 : w4.cell? ⟨w.heap.size, 2, none⟩ = some (.int .u64 n) := hg.cell (by go_simp) (by simp)
  have h77 : w4.cell? ⟨g, zs.length, none⟩ = some (.int .i64 77) := hg.cell (by go_simp) (by simp)
  have bl4 : w3.heap.size < w4.heap.size := by have := hg.size; simp at this; omega
  clear hg g3
  go_wp2_with fail
  refine (RA.out _ (by (repeat' (first | (with_reducible exact World.grownBy.refl _ _) | (with_reducible assumption) | (with_reducible refine galloc ?_ _) | (with_reducible refine gdrewN ?_ _) | (with_reducible refine gset ?_ (.inl (by simp; try omega)) _))))).mono ?_
  rintro e w5 ⟨vo, k, v', n', xs, er', rfl, hg, hown, hrun, hlast, _⟩
  simp only [Prod.mk.injEq] at hrun
  obtain ⟨rfl, rfl, rfl, rfl⟩ := hrun
  have g5 : w.grownBy w5 none := by refine gtrans ?_ hg; (repeat' (first | (with_reducible exact World.grownBy.refl _ _) | (with_reducible assumption) | (with_reducible refine galloc ?_ _) | (with_reducible refine gdrewN ?_ _) | (with_reducible refine gset ?_ (.inl (by simp; try omega)) _)))
  have b0 : w5.cell? ⟨w3.heap.size, 0, none⟩ = some (.int .i64 x) := hg.cell (by go_simp) (by simp)
  have b1 : w5.cell? ⟨w3.heap.size, 1, none⟩ = some (.int .i64 f) := hg.cell (by go_simp) (by simp)
  have b2 : w5.cell? ⟨w3.heap.size, 2, none⟩ = some (.int .u64 y) := hg.cell (by go_simp) (by simp)
  have c0 : w5.cell? ⟨w.heap.size, 0, none⟩ = some (.int .i64 v) := hg.cell (by go_simp) (by simp)
  have c1 : w5.cell? ⟨w.heap.size, 1, none⟩ = some (.int .i64 f) := hg.cell (by go_simp) (by simp)
  have c2 : w5.cell? ⟨w.heap.size, 2, none⟩ = some (.int .u64 n) := hg.cell (by go_simp) (by simp)
  have h77 : w5.cell? ⟨g, zs.length, none⟩ = some (.int .i64 77) := hg.cell (by go_simp) (by simp)
  have bl5 : w3.heap.size < w5.heap.size := by have := hg.size; (try simp at this); omega
  have bm5 : w3.heap.size < w5.heap.size + 1 := by omega
  have cl5 : w.heap.size < w5.heap.size := by omega
  have cm5 : w.heap.size < w5.heap.size + 1 := by omega
  have gl5 : g < w5.heap.size := by omega
  have gm5 : g < w5.heap.size + 1 := by omega
  clear hg g4
  have hc1 : zs.length + 1 ≤ cap2 := hgc
  rcases Nat.eq_zero_or_pos k with rfl | hk
  · obtain ⟨rfl, rfl⟩ := hlast.1 rfl
    obtain ⟨ao', cap', rfl⟩ : ∃ ao' cap', vo = .slice ao' 0 cap' := by
      rcases hown.2 with ⟨h, _⟩ | ⟨g', c', _, h, _⟩
      · exact ⟨_, _, h⟩
      · exact ⟨_, _, h⟩
    clear hown hlast
    go_wp2_with (first | (go_at_call 14; refine (num_any _ _ (by omega) (by omega)).mono ?_; rintro e w' ⟨rfl, rfl⟩) | (go_at_call 17; refine (works_any _).mono ?_; rintro e w7 ⟨rfl, hg7⟩))
    go_ret
    exact ⟨rfl, by refine gtrans ?_ hg7; (repeat' (first | (with_reducible exact World.grownBy.refl _ _) | (with_reducible assumption) | (with_reducible refine galloc ?_ _) | (with_reducible refine gdrewN ?_ _) | (with_reducible refine gset ?_ (.inl (by simp; try omega)) _)))⟩
  · obtain ⟨q, rfl⟩ : ∃ q, k = q + 1 := ⟨k - 1, by omega⟩
    obtain ⟨g', cap', rfl, hb', hg'⟩ := hown.form (by omega)
    obtain ⟨ys, hys, hyl⟩ := hlast.2 (by omega)
    have hy : ys.length = q * 3 := by omega
    have l0 : w5.cell? ⟨g', q * 3, none⟩ = some (.int .i64 x) := by rw [hown.cellAt _ (by omega), hys, List.getElem?_append_right (by omega), hy]; simp
    have l1 : w5.cell? ⟨g', q * 3 + 1, none⟩ = some (.int .i64 f) := by rw [hown.cellAt _ (by omega), hys, List.getElem?_append_right (by omega), hy]; simp
    have l2 : w5.cell? ⟨g', q * 3 + 2, none⟩ = some (.int .u64 y) := by rw [hown.cellAt _ (by omega), hys, List.getElem?_append_right (by omega), hy]; simp
    have gm' : g' < w5.heap.size + 1 := by omega
    have hcq : q + 1 ≤ cap' := by
      rcases hown.2 with ⟨h', _⟩ | ⟨_, _, _, h', _, _, hc, _⟩
      · simp at h'
      · simp only [Value.slice.injEq] at h'
        omega
    have hqm : q + 1 ≤ maxLen := by
      rcases hown.2 with ⟨h', _⟩ | ⟨_, _, _, h', _, _, hc, hm, _⟩
      · simp at h'
      · exact Nat.le_trans hc hm
    have hwq : wrap64 (q : Int) = q := by
      unfold maxLen at hqm
      exact IntWalk.wrap64_in _ ⟨by omega, by omega⟩
    clear hown hlast hys hqm
    go_wp2_with (first | (go_at_call 14; refine (num_any _ _ (by omega) (by omega)).mono ?_; rintro e w' ⟨rfl, rfl⟩) | (go_at_call 17; refine (works_any _).mono ?_; rintro e w7 ⟨rfl, hg7⟩))
    go_ret
    exact ⟨rfl, by refine gtrans ?_ hg7; (repeat' (first | (with_reducible exact World.grownBy.refl _ _) | (with_reducible assumption) | (with_reducible refine galloc ?_ _) | (with_reducible refine gdrewN ?_ _) | (with_reducible refine gset ?_ (.inl (by simp; try omega)) _)))⟩
end Go.Proofs.Ytgcejfcfaaidhaa.runs
