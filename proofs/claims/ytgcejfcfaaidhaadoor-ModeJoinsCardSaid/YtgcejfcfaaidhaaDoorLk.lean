/- The walk of the law ModeJoins. The tables are laid. -/
import Derived.Test.YtgcejfcfaaidhaaDoorLj
import Derived.Test.YtgcejfcfaaidhaaDoorLib7
set_option linter.unusedSimpArgs false
set_option linter.unusedVariables false
namespace Go.Proofs.YtgcejfcfaaidhaaDoor
open Go.RowKit ref

theorem Tryd.info22 : (Tryd.prog.info? 22).map (fun i => (i.zero, i.size, i.bytes)) = some (some (.int .i64 0), 1, 8) := by kernel_rfl

theorem joinBadT (ao : Option Addr) (cap : Nat) (zs : List Int) (w : World) (hlen : zs.length < 9223372036854775807) (hb : zs.all isM = false) (hz : Row w ao zs) :
    Tells Tryd.prog w 18 #[.slice ao zs.length cap] (.tuple #[.int .i64 0, .int .i64 130]) := by
  intro W hW
  obtain ⟨b, off, h⟩ := (hz.grown hW).at'
  exact join_bad b off cap ao zs W hlen hb h
/-- What Join and Together tell of any list. -/
theorem joinAny (zs : List Int) (hlen : zs.length < 1000) : ∃ (j er : Int) (t : Bool), (∀ ao cap w, Tabs w → Row w ao zs → Tells Tryd.prog w 18 #[.slice ao zs.length cap] (.tuple #[.int .i64 j, .int .i64 er]) ∧ Tells Tryd.prog w 19 #[.slice ao zs.length cap] (.tuple #[.bool t, .int .i64 er])) ∧
    ((zs.all isM = false ∧ j = 0 ∧ er = 130 ∧ t = false) ∨ (zs.all isM = true ∧ er = 0 ∧ ∀ ao cap w, Row w ao zs → Tells Tryd.prog w 21 #[.slice ao zs.length cap] (.int .i64 j) ∧ Tells Tryd.prog w 22 #[.slice ao zs.length cap] (.bool t))) := by
  cases h : zs.all isM
  · exact ⟨0, 130, false, fun ao cap w hT hz => ⟨joinBadT ao cap zs w (by omega) h hz, together_bad ao cap zs w (by omega) hz h⟩, .inl ⟨rfl, rfl, rfl, rfl⟩⟩
  · obtain ⟨ms, rfl, h6⟩ := nats_of zs h
    rw [List.length_map] at hlen ⊢
    exact ⟨joinL ms, 0, togL ms, fun ao cap w hT hz => ⟨joinT ao cap ms w hT (by omega) h6 hz, together_good ao cap ms w hT hlen h6 hz⟩, .inr ⟨rfl, rfl, fun ao cap w hz => ⟨ref.join ao cap ms w (by omega) h6 hz, ref.together ao cap ms w (by omega) h6 hz⟩⟩⟩

set_option maxRecDepth 100000 in
set_option maxHeartbeats 8000000 in
theorem joins_long (ao : Option Addr) (len cap : Nat) (hl : 50 < (len : Int)) (w : World) (hT : Tabs w) (hN : TabN w) : Tells Tryd.prog w 4 #[.slice ao len cap] (.bool true) := by
  have TW := works w hT hN
  clear hT hN
  refine .walk fun b w1 hb g hs => ?_
  go_enter Tryd.func4, Tryd.ntmps4
  go_wp2_with (with_reducible apply Tells.arm (w := w) (b := b); (first | with_reducible assumption); (with_reducible exact hb); (focus (first | with_reducible exact g | (repeat' (first | (with_reducible exact World.grownBy.refl _ _) | (with_reducible assumption) | (with_reducible refine galloc ?_ _) | (with_reducible refine gdrewN ?_ _) | (with_reducible refine gdrew ?_) | (with_reducible refine gset ?_ (.inl ?_) _) | (with_reducible refine gput ?_ (.inl ?_) _) | (refine gtrans ?_ (by with_reducible assumption)) | omega | (simp; done) | (simp; omega))))); intro w' g' h'; clear h' g; have g := g'; clear g')
  go_ret
  exact ⟨by first | rfl | (simp; done) | (simp; omega), by (repeat' (first | (with_reducible exact World.grownBy.refl _ _) | (with_reducible assumption) | (with_reducible refine galloc ?_ _) | (with_reducible refine gdrewN ?_ _) | (with_reducible refine gdrew ?_) | (with_reducible refine gset ?_ (.inl ?_) _) | (with_reducible refine gput ?_ (.inl ?_) _) | (refine gtrans ?_ (by with_reducible assumption)) | omega | (simp; done) | (simp; omega)))⟩

set_option maxRecDepth 100000 in
set_option maxHeartbeats 8000000 in
theorem joins (ao : Option Addr) (cap : Nat) (zs : List Int) (hno : ao = none → zs.length = 0 ∧ cap = 0) (w : World) (hT : Tabs w) (hN : TabN w) (hz : Row w ao zs) : Tells Tryd.prog w 4 #[.slice ao zs.length cap] (.bool true) := by
  by_cases hl : 50 < (zs.length : Int)
  · exact joins_long ao _ cap hl w hT hN
  have hl' : (zs.length : Int) ≤ 50 := by omega
  obtain ⟨j, er, t, hJ, hcase⟩ := joinAny zs (by omega)
  have TW := works w hT hN
  have TA := ref.all ao cap zs w (by omega) hz
  have NT := fun x => numT x w
  obtain ⟨i0, hi, hz0, hz1, hz2⟩ := info_parts Tryd.info22
  have HJ := Lib.hid hJ
  have HCS := Lib.hid hcase
  have HT := Lib.hid hT
  have HZ := Lib.hid hz
  clear hT hN hJ hcase hl
  refine .walk fun b w1 hb g hs => ?_
  have HNW := Lib.hid (fun (W : World) (hW : b.grownBy W none) => news_ints hz.at' (gtrans hb hW))
  clear hz
  go_enter Tryd.func4, Tryd.ntmps4
  go_wp2_with
    first
      | (at_builtin
         refine append_src (o := ⟨some 15, _, _, _, _, _⟩) rfl _ _ 31 rfl w1.heap.size 22 i0 (.int .i64 0) 8 Tryd.underlying31 hi hz0 hz1 hz2 rfl _ 0 [] rfl ?_ ao zs.length cap (zs.map (Value.int .i64)) rfl (by simp) hno ?_ (ints_oneCell .i64 zs) ?_ ?_ ?_ ?_
         · exact lit_at #[] 0 (by simp) (by omega) (by decide) (by simp)
         · exact HNW.out _ (galloc g _)
         · unfold maxLen
           omega
         · omega
         · simp
         intro v1 w2 hown1 hg1)
      | (at_builtin
         refine append_src (o := ⟨some 17, _, _, _, _, _⟩) rfl _ _ 31 rfl w1.heap.size 22 i0 (.int .i64 0) 8 Tryd.underlying31 hi hz0 hz1 hz2 rfl _ zs.length (zs.map (Value.int .i64)) rfl ?_ (some ⟨w2.heap.size, 0, none⟩) 1 1 [.int .i64 77] rfl rfl ?_ ?_ (ints_oneCell .i64 [77]) ?_ ?_ ?_ ?_
         · have H := hown1
           simp only [Nat.zero_add, List.nil_append] at H
           exact H.alloc _
         · exact fun h => absurd h (by simp)
         · intro ad had
           injection had with had
           subst had
           exact cell_one_new _ _ _
         · unfold maxLen
           omega
         · omega
         · have := hg1.size
           simp at this ⊢
           omega
         intro v2 w3 hown2 hg2
         have hob1 : ∀ g, v1.ownBlock = some g → w1.heap.size ≤ g := fun g hg => (hown1.lt g hg).1
         have hg1' : (w1.alloc (.cells #[] 22)).grownBy w2 (some w1.heap.size) := hg1
         have hg2' : (w2.alloc (.cells #[.int .i64 77] 22)).grownBy w3 v1.ownBlock := hg2
         have ga : w1.grownBy w2 none := gown (galloc (World.grownBy.refl _ _) _) hg1' (fun g h => by injection h with h; omega)
         have gb : w1.grownBy w3 none := gown (galloc ga _) hg2' (fun g h => hob1 g h)
         obtain ⟨gg, cap2, rfl, hgB, hgl, hgc, hcells⟩ := form2 hown2
         have HC := Lib.hid hcells
         have g3 : b.grownBy w3 none := gtrans g gb
         clear hg1 hg2 hg1' hg2' hob1 hown1 hown2 ga gb hcells g
         have g := g3
         clear g3)
  have hrow : Row w3 (some ⟨gg, 0, none⟩) zs := ⟨gg, 0, fun k hk => ⟨rfl, by
    rw [Nat.zero_add, HC.out k (by omega), List.getElem?_append_left (by simpa using hk), List.getElem?_map, List.getElem?_eq_getElem hk]
    simp [List.getD, List.getElem?_eq_getElem hk]⟩⟩
  have h77 : w3.cell? ⟨gg, zs.length, none⟩ = some (.int .i64 77) := by
    rw [HC.out zs.length (by omega), List.getElem?_append_right (by simp)]
    simp
  have HR3 := Lib.hid hrow
  have H77 := Lib.hid h77
  clear hrow h77
  refine Tells.useHere ((HJ.out _ _ _ (HT.out.grown (gtrans hb g)) HR3.out).1) (fun w4 h4 => ?_)
  have g4 : b.grownBy w4 none := gtrans g h4
  clear g
  have H34 := Lib.hid h4
  clear h4
  go_wp2_with fail
  refine Tells.useHere ((HJ.out _ _ _ (HT.out.grown (gtrans hb g4)) (HR3.out.grown H34.out)).2) (fun w5 h5 => ?_)
  have g5 : b.grownBy w5 none := gtrans g4 h5
  have H35 := Lib.hid (gtrans H34.out h5)
  have lw : b.heap.size ≤ w1.heap.size := hs
  clear g4 h5
  go_wp2_with fail
  have hl0 : (zs.length : Int) < 9223372036854775807 := by omega
  obtain ⟨sb, so, hz⟩ := HZ.out.at'
  have HZZ := Lib.hid hz
  clear hz
  go_loopw [8] (fun i wr => ∃ k : Nat, k ≤ zs.length ∧ i = .int .i64 k ∧ w5.grownBy wr none) (fun i _ => zs.length - (intOf i).toNat)
  case atStart => exact ⟨0, Nat.zero_le _, rfl, World.grownBy.refl _ _⟩
  case round =>
    obtain ⟨k, hk, rfl, hg⟩ := hrel
    by_cases hlt : k < zs.length
    · obtain ⟨rfl, hc0⟩ := HZZ.out k hlt
      have hc1 := gcell' (gtrans (gtrans hb g5) hg) hc0
      have hkl : (k : Int) < zs.length := by omega
      have hc2 : wr.cell? ⟨gg, k, none⟩ = some (.int .i64 (zs.getD k 0)) := by
        refine gcell' (gtrans H35.out hg) ?_
        rw [HC.out k (by omega), List.getElem?_append_left (by simpa using hlt), List.getElem?_map, List.getElem?_eq_getElem hlt]
        simp [List.getD, List.getElem?_eq_getElem hlt]
      generalize zs.getD k 0 = z at *
      clear hc0
      go_wp2_with fail
      go_quiet (fail)
      go_wp2_with fail
      refine ⟨⟨k + 1, by omega, by go_num, gdrewN hg _⟩, by first | (simp [intOf]; done) | (simp [intOf]; omega)⟩
    · obtain rfl : k = zs.length := by omega
      have h77 : wr.cell? ⟨gg, zs.length, none⟩ = some (.int .i64 77) := gcell' (gtrans H35.out hg) H77.out
      have hgc' : (zs.length : Int) < cap2 := by omega
      have g : b.grownBy wr none := gtrans g5 hg
      have g6 := gtrans hb g
      have HR := Lib.hid (HZ.out.grown g6)
      rcases HCS.out with ⟨ha, rfl, rfl, rfl⟩ | ⟨ha, rfl, hR⟩
      · rw [ha] at TA
        have HA := Lib.hid ha
        clear ha hg g5 g6
        go_wp2_with (with_reducible apply Tells.arm (w := w) (b := b); (first | with_reducible assumption | (refine NT _)); (with_reducible exact hb); (focus (first | with_reducible exact g | (repeat' (first | (with_reducible exact World.grownBy.refl _ _) | (with_reducible assumption) | (with_reducible refine galloc ?_ _) | (with_reducible refine gdrewN ?_ _) | (with_reducible refine gdrew ?_) | (with_reducible refine gset ?_ (.inl ?_) _) | (with_reducible refine gput ?_ (.inl ?_) _) | (refine gtrans ?_ (by with_reducible assumption)) | omega | (simp; done) | (simp; omega))))); intro w' g' h'; clear h' g; have g := g'; clear g')
        go_ret
        exact ⟨by first | rfl | (simp; done) | (simp; omega), by (repeat' (first | (with_reducible exact World.grownBy.refl _ _) | (with_reducible assumption) | (with_reducible refine galloc ?_ _) | (with_reducible refine gdrewN ?_ _) | (with_reducible refine gdrew ?_) | (with_reducible refine gset ?_ (.inl ?_) _) | (with_reducible refine gput ?_ (.inl ?_) _) | (refine gtrans ?_ (by with_reducible assumption)) | omega | (simp; done) | (simp; omega)))⟩
      · rw [ha] at TA
        obtain ⟨R1, R2⟩ := hR ao cap w HZ.out
        have HA := Lib.hid ha
        clear ha hg g5 g6 hR
        go_wp2_with (with_reducible apply Tells.arm (w := w) (b := b); (first | with_reducible assumption | (refine NT _)); (with_reducible exact hb); (focus (first | with_reducible exact g | (repeat' (first | (with_reducible exact World.grownBy.refl _ _) | (with_reducible assumption) | (with_reducible refine galloc ?_ _) | (with_reducible refine gdrewN ?_ _) | (with_reducible refine gdrew ?_) | (with_reducible refine gset ?_ (.inl ?_) _) | (with_reducible refine gput ?_ (.inl ?_) _) | (refine gtrans ?_ (by with_reducible assumption)) | omega | (simp; done) | (simp; omega))))); intro w' g' h'; clear h' g; have g := g'; clear g')
        go_ret
        exact ⟨by first | rfl | (simp; done) | (simp; omega), by (repeat' (first | (with_reducible exact World.grownBy.refl _ _) | (with_reducible assumption) | (with_reducible refine galloc ?_ _) | (with_reducible refine gdrewN ?_ _) | (with_reducible refine gdrew ?_) | (with_reducible refine gset ?_ (.inl ?_) _) | (with_reducible refine gput ?_ (.inl ?_) _) | (refine gtrans ?_ (by with_reducible assumption)) | omega | (simp; done) | (simp; omega)))⟩
end Go.Proofs.YtgcejfcfaaidhaaDoor
