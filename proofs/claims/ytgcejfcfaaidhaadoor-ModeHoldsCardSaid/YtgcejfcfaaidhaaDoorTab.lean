/- What the laid tables of the lock's modes hold, cell by cell. No condition but that they are laid. -/
import Derived.Test.YtgcejfcfaaidhaaDoorRows
import Derived.OpenShut
import Derived.ChangeArms
import Derived.LaidHandle
import Derived.LaidLaws
import Derived.KernelRfl
set_option linter.unusedSimpArgs false
set_option linter.unusedVariables false
namespace Go.Proofs.YtgcejfcfaaidhaaDoor
open Go.ChangeShapes

section
variable {H : Type} {enc : TypeId × Value → H} {P : Program} {w : World} {base : Nat} {spare : Nat → Bool} {held : Bool} {fuel : Nat} {t e : TypeId} {cs : List Value}

theorem trod_row_bools {n : Nat} {p : List MemPlace} (ht : P.underlying t = some (.array n e)) (he : P.underlying e = some .bool) (hc : P.cellsOf e = 1) (hn : P.cellsOf t = n) {bs : List Bool}
    (h : DataW.trod enc P w base spare held fuel t cs = some (.agg (bs.map fun b => .lit (.bool b)), p)) : cs = bs.map Value.bool := by
  obtain ⟨xs, m, rfl, hx, hl, hxl, hi⟩ := DataW.trod_array ht h
  simp only [Prod.mk.injEq, DataW.agg.injEq] at hx
  obtain ⟨hx, _⟩ := hx
  have hbl : bs.length = n := by rw [← hxl]; simpa using congrArg List.length hx
  refine List.ext_getElem (by rw [hl, hn, List.length_map, hbl]) fun i h1 h2 => ?_
  have hin : i < n := by rw [hl, hn] at h1; exact h1
  have := hi i hin
  rw [hc, Nat.mul_one, List.drop_eq_getElem_cons h1, List.take_succ_cons, List.take_zero] at this
  rw [List.getElem?_eq_getElem (by omega)] at this
  obtain ⟨b, hb, hy⟩ := DataW.trod_bool he this
  have hb : cs[i] = .bool b := by simpa using hb
  have hq : (bs.map fun b => (DataW.lit (.bool b) : DataW H))[i]? = (xs.map (·.1))[i]? := by rw [hx]
  rw [List.getElem?_map, List.getElem?_map, List.getElem?_eq_getElem (show i < bs.length by omega), List.getElem?_eq_getElem (show i < xs.length by omega), hy] at hq
  simp at hq
  rw [hb, List.getElem_map, hq]

theorem trod_rows_bools {t' : TypeId} {m n : Nat} {p : List MemPlace} (ht : P.underlying t = some (.array m t')) (ht' : P.underlying t' = some (.array n e)) (he : P.underlying e = some .bool) (hc : P.cellsOf e = 1) (hn : P.cellsOf t' = n)
    (hm : P.cellsOf t = m * n) {bss : List (List Bool)} (hbb : ∀ bs ∈ bss, bs.length = n)
    (h : DataW.trod enc P w base spare held fuel t cs = some (.agg (bss.map fun bs => .agg (bs.map fun b => .lit (.bool b))), p)) : ∀ i bs, bss[i]? = some bs → (cs.drop (i * n)).take n = bs.map Value.bool := by
  obtain ⟨xs, k, rfl, hx, hl, hxl, hi⟩ := DataW.trod_array ht h
  simp only [Prod.mk.injEq, DataW.agg.injEq] at hx
  obtain ⟨hx, _⟩ := hx
  intro i bs hbs
  have hbl : bss.length = m := by rw [← hxl]; simpa using congrArg List.length hx
  have hil : i < bss.length := (List.getElem?_eq_some_iff.1 hbs).1
  have := hi i (by omega)
  rw [hn, List.getElem?_eq_getElem (show i < xs.length by omega)] at this
  have hq : (bss.map fun bs => (DataW.agg (bs.map fun b => .lit (.bool b)) : DataW H))[i]? = (xs.map (·.1))[i]? := by rw [hx]
  rw [List.getElem?_map, List.getElem?_map, hbs, List.getElem?_eq_getElem (show i < xs.length by omega)] at hq
  simp at hq
  have h2 : xs[i]'(by omega) = (.agg (bs.map fun b => .lit (.bool b)), (xs[i]'(by omega)).2) := by rw [hq]
  rw [h2] at this
  exact trod_row_bools ht' he hc hn this
end

def fitT : List (List Bool) := [[true, true, true, true, true, true], [true, true, true, true, true, false], [true, true, true, false, false, false], [true, true, false, true, false, false], [true, true, false, false, false, false], [true, false, false, false, false, false]]
def covT : List (List Bool) := [[true, false, false, false, false, false], [true, true, false, false, false, false], [true, true, true, false, false, false], [true, true, false, true, false, false], [true, true, true, true, true, false], [true, true, true, true, true, true]]
def namT : List (List UInt8) := [[110, 111, 110, 101], [105, 115], [105, 120], [115], [115, 105, 120], [120]]
def fitB (i j : Nat) : Bool := (fitT.getD i []).getD j false
def covB (i j : Nat) : Bool := (covT.getD i []).getD j false

theorem Tryd.g_fits : Tryd.prog.globalNamed "castellan/mode.fits" = some 0 := by kernel_rfl
theorem Tryd.g_names : Tryd.prog.globalNamed "castellan/mode.names" = some 1 := by kernel_rfl
theorem Tryd.g_covers : Tryd.prog.globalNamed "castellan/mode.covers" = some 2 := by kernel_rfl
theorem Tryd.t_fits : (Tryd.prog.globals[0]?).map (·.type) = some 84 := by kernel_rfl
theorem Tryd.t_names : (Tryd.prog.globals[1]?).map (·.type) = some 85 := by kernel_rfl
theorem Tryd.t_covers : (Tryd.prog.globals[2]?).map (·.type) = some 84 := by kernel_rfl
theorem Tryd.u84 : Tryd.prog.underlying 84 = some (.array 6 83) := by kernel_rfl
theorem Tryd.u83 : Tryd.prog.underlying 83 = some (.array 6 4) := by kernel_rfl
theorem Tryd.u4 : Tryd.prog.underlying 4 = some .bool := by kernel_rfl

/-- The three tables, as they lie in memory. -/
structure Tabs (W : World) : Prop where
  fits : ∀ i j, i < 6 → j < 6 → W.cell? ⟨0, i * 6 + j, none⟩ = some (.bool (fitB i j))
  covers : ∀ i j, i < 6 → j < 6 → W.cell? ⟨2, i * 6 + j, none⟩ = some (.bool (covB i j))

theorem cell_of_rows {T : List (List Bool)} {W : World} {g : Nat} {n : String} {cs : Array Value} (hg : Tryd.prog.globalNamed n = some g) (hv : W.var? Tryd.prog n = some cs)
    (h : ∀ i bs, T[i]? = some bs → (cs.toList.drop (i * 6)).take 6 = bs.map Value.bool) (hT : T.length = 6) (hR : ∀ bs ∈ T, bs.length = 6) (i j : Nat) (hi : i < 6) (hj : j < 6) :
    W.cell? ⟨g, i * 6 + j, none⟩ = some (.bool ((T.getD i []).getD j false)) := by
  have hi' : i < T.length := by omega
  have h1 := h i T[i] (List.getElem?_eq_getElem hi')
  have hl : (T[i]).length = 6 := hR _ (List.getElem_mem hi')
  rw [World.var?_cell hg hv, ← Array.getElem?_toList]
  have h2 : ((cs.toList.drop (i * 6)).take 6)[j]? = (T[i].map Value.bool)[j]? := by rw [h1]
  rw [List.getElem?_take_of_lt hj, List.getElem?_drop, List.getElem?_map, List.getElem?_eq_getElem (show j < (T[i]).length by omega)] at h2
  rw [h2]
  simp [List.getD, List.getElem?_eq_getElem hi', List.getElem?_eq_getElem (show j < (T[i]).length by omega)]

theorem tabs_of_laid {W : World} (h : laidMetH Tryd.prog Rows.modePairsRow.laid W) : Tabs W := by
  have h' : laidMet Tryd.prog Rows.modePairsRow.laid W := h
  obtain ⟨ps, ⟨g, t, cs, fuel, p, q, hg, ht, hv, hd, ⟨g2, t2, cs2, fuel2, p2, q2, hg2, ht2, hv2, hd2, _⟩, _⟩, _⟩ := h'
  obtain rfl := Option.some.inj (Tryd.g_fits.symm.trans hg)
  obtain rfl := Option.some.inj (Tryd.t_fits.symm.trans ht)
  obtain rfl := Option.some.inj (Tryd.g_covers.symm.trans hg2)
  obtain rfl := Option.some.inj (Tryd.t_covers.symm.trans ht2)
  refine ⟨fun i j hi hj => ?_, fun i j hi hj => ?_⟩
  · exact cell_of_rows (T := fitT) hg hv (trod_rows_bools Tryd.u84 Tryd.u83 Tryd.u4 (by kernel_rfl) (by kernel_rfl) (by kernel_rfl) (bss := fitT) (by decide) hd) rfl (by decide) i j hi hj
  · exact cell_of_rows (T := covT) hg2 hv2 (trod_rows_bools Tryd.u84 Tryd.u83 Tryd.u4 (by kernel_rfl) (by kernel_rfl) (by kernel_rfl) (bss := covT) (by decide) hd2) rfl (by decide) i j hi hj
end Go.Proofs.YtgcejfcfaaidhaaDoor
