/- The table of the modes' names, cell by cell, and Text. The tables are laid. -/
import Derived.Test.YtgcejfcfaaidhaaDoorFo
set_option linter.unusedSimpArgs false
set_option linter.unusedVariables false
namespace Go.Proofs.YtgcejfcfaaidhaaDoor
open Go.RowKit Go.ChangeShapes

section
variable {H : Type} {enc : TypeId × Value → H} {P : Program} {w : World} {base : Nat} {spare : Nat → Bool} {held : Bool} {fuel : Nat} {t e : TypeId} {cs : List Value}
theorem trod_row_strings {n : Nat} {p : List MemPlace} (ht : P.underlying t = some (.array n e)) (he : P.underlying e = some .string) (hc : P.cellsOf e = 1) (hn : P.cellsOf t = n) {ts : List (List UInt8)}
    (h : DataW.trod enc P w base spare held fuel t cs = some (.agg (ts.map fun b => .lit (.string b)), p)) : cs = ts.map fun b => Value.string ⟨b.toArray⟩ := by
  obtain ⟨xs, m, rfl, hx, hl, hxl, hi⟩ := DataW.trod_array ht h
  simp only [Prod.mk.injEq, DataW.agg.injEq] at hx
  obtain ⟨hx, _⟩ := hx
  have hbl : ts.length = n := by rw [← hxl]; simpa using congrArg List.length hx
  refine List.ext_getElem (by rw [hl, hn, List.length_map, hbl]) fun i h1 h2 => ?_
  have hin : i < n := by rw [hl, hn] at h1; exact h1
  have := hi i hin
  rw [hc, Nat.mul_one, List.drop_eq_getElem_cons h1, List.take_succ_cons, List.take_zero] at this
  rw [List.getElem?_eq_getElem (by omega)] at this
  obtain ⟨s, hb, hy, _⟩ := DataW.trod_string he this
  have hb : cs[i] = .string s := by simpa using hb
  have hq : (ts.map fun b => (DataW.lit (.string b) : DataW H))[i]? = (xs.map (·.1))[i]? := by rw [hx]
  rw [List.getElem?_map, List.getElem?_map, List.getElem?_eq_getElem (show i < ts.length by omega), List.getElem?_eq_getElem (show i < xs.length by omega), hy] at hq
  simp at hq
  rw [hb, List.getElem_map, hq]
end

theorem Tryd.u85 : Tryd.prog.underlying 85 = some (.array 6 9) := by kernel_rfl
theorem Tryd.u9 : Tryd.prog.underlying 9 = some .string := by kernel_rfl

/-- A mode's name. -/
def nameV (i : Nat) : Value := .string ⟨(namT.getD i []).toArray⟩
def TabN (W : World) : Prop := ∀ i, i < 6 → W.cell? ⟨1, i, none⟩ = some (nameV i)

theorem tabN_of_laid {W : World} (h : laidMetH Tryd.prog Rows.modePairsRow.laid W) : TabN W := by
  have h' : laidMet Tryd.prog Rows.modePairsRow.laid W := h
  obtain ⟨ps, ⟨_, _, _, _, _, _, _, _, _, _, ⟨_, _, _, _, _, _, _, _, _, _, ⟨g, t, cs, fuel, p, q, hg, ht, hv, hd, _⟩, _⟩, _⟩, _⟩ := h'
  obtain rfl := Option.some.inj (Tryd.g_names.symm.trans hg)
  obtain rfl := Option.some.inj (Tryd.t_names.symm.trans ht)
  have hcs := trod_row_strings (ts := namT) Tryd.u85 Tryd.u9 (by kernel_rfl) (by kernel_rfl) hd
  intro i hi
  have hl : i < namT.length := hi
  rw [World.var?_cell hg hv, ← Array.getElem?_toList, hcs, List.getElem?_map, List.getElem?_eq_getElem hl]
  simp [nameV, List.getD, List.getElem?_eq_getElem hl]

theorem TabN.grown {w W : World} (h : TabN w) (hg : w.grownBy W none) : TabN W := fun i hi => gcell hg (h i hi) (by simp)

theorem right_one (a : Int) (w W : World) (hW : W.cell? ⟨w.heap.size, 0, none⟩ = some (.int .i64 a)) : Calls Tryd.prog 48 #[.slice (some ⟨w.heap.size, 0, none⟩) 1 1] W fun e w' => e = .returned (.bool (isM a)) ∧ W.grownBy w' none := by
  have := right_all w.heap.size 0 1 (some ⟨w.heap.size, 0, none⟩) [a] W (by simp) (fun k hk => by
    have : k = 0 := by simp at hk; exact hk
    subst this
    exact ⟨rfl, hW⟩)
  simpa using this

set_option maxRecDepth 100000 in
set_option maxHeartbeats 400000 in
theorem text_bad (a : Int) (w : World) (h : isM a = false) : Calls Tryd.prog 23 #[.int .i64 a] w fun e w' => e = .returned (.tuple #[.string ⟨#[]⟩, .int .i64 130]) ∧ w.grownBy w' none := by
  have F0 := right_one a w
  rw [h] at F0
  have F := Lib.hid F0
  clear F0 h
  go_enter Tryd.func23, Tryd.ntmps23
  go_wp2_with fail
  refine (F.out _ (by go_simp)).mono ?_
  rintro e w2 ⟨rfl, hg⟩
  go_wp2_with fail
  go_ret2
  exact ⟨rfl, gtrans (galloc (World.grownBy.refl _ _) _) hg⟩

set_option maxRecDepth 100000 in
set_option maxHeartbeats 400000 in
theorem text_good (i : Nat) (hi : i < 6) (w : World) (hT : TabN w) : Calls Tryd.prog 23 #[.int .i64 i] w fun e w' => e = .returned (.tuple #[nameV i, .int .i64 0]) ∧ w.grownBy w' none := by
  have F0 := right_one i w
  rw [show isM (i : Int) = true by simp [isM]; omega] at F0
  have F := Lib.hid F0
  have HT := Lib.hid hT
  have e1 : (i : Int) < 6 := by omega
  clear F0 hT
  go_enter Tryd.func23, Tryd.ntmps23
  go_wp2_with fail
  refine (F.out _ (by go_simp)).mono ?_
  rintro e w2 ⟨rfl, hg⟩
  have g2 := gtrans (galloc (World.grownBy.refl w none) _) hg
  have hc := (HT.out.grown g2) i hi
  clear hg
  obtain ⟨x, hx⟩ : ∃ x, x = nameV i := ⟨_, rfl⟩
  rw [← hx] at hc
  have HX := Lib.hid hx
  clear hx
  go_wp2_with fail
  go_ret2
  exact ⟨by rw [← HX.out]; rfl, g2⟩
end Go.Proofs.YtgcejfcfaaidhaaDoor
