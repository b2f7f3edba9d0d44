/- What the laid table of the modes that go together holds, cell by cell. No condition but that it is laid. -/
import Derived.Test.YteblnjgghbclpaaDoorWa
import Derived.Test.YteblnjgghbclpaaDoorRows
import Derived.OpenShut
import Derived.ChangeArms
import Derived.LaidHandle
import Derived.LaidLaws
import Derived.KernelRfl
import Derived.Test.YteblnjgghbclpaaDoorTie
import Derived.Test.YteblnjgghbclpaaDoorCards
import Derived.Lay
import Derived.SevenTiedAt
set_option linter.unusedSimpArgs false
set_option linter.unusedVariables false
set_option linter.deprecated false
namespace Go.Proofs.YteblnjgghbclpaaDoor.wt
open Go Go.ChangeShapes Go.Proofs.YteblnjgghbclpaaDoor.Sx

section
variable {H : Type} {enc : TypeId × Value → H} {P : Program} {w : World} {base : Nat} {spare : Nat → Bool} {held : Bool} {fuel : Nat} {t e : TypeId} {cs : List Value}

theorem trod_row_bools {n : Nat} {p : List MemPlace} (ht : P.underlying t = some (.array n e)) (he : P.underlying e = some .bool) (hc : P.cellsOf e = 1) (hn : P.cellsOf t = n) {bs : List Bool}
    (h : DataW.trod enc P w base spare held fuel t cs = some (.agg (bs.map fun b => .lit (.bool b)), p)) : cs = bs.map Value.bool := by
  obtain ⟨xs, m, rfl, hx, hl, hxl, hi⟩ := DataW.trod_array ht h
  simp only [Prod.mk.injEq, DataW.agg.injEq] at hx
  obtain ⟨hx, _⟩ := hx
  have hbl : bs.length = n := by rw [← hxl]; simpa using congrArg List.length hx
  refine List.ext_getElem (by rw [hl, hn, List.length_map, hbl]) fun i h1 h2 => ?_
  have hin : i < n := by rw [hl, hn] at h1; exact h1
  have := hi i hin
  rw [hc, Nat.mul_one, List.drop_eq_getElem_cons h1, List.take_succ_cons, List.take_zero] at this
  rw [List.getElem?_eq_getElem (by omega)] at this
  obtain ⟨b, hb, hy⟩ := DataW.trod_bool he this
  have hb : cs[i] = .bool b := by simpa using hb
  have hq : (bs.map fun b => (DataW.lit (.bool b) : DataW H))[i]? = (xs.map (·.1))[i]? := by rw [hx]
  rw [List.getElem?_map, List.getElem?_map, List.getElem?_eq_getElem (show i < bs.length by omega), List.getElem?_eq_getElem (show i < xs.length by omega), hy] at hq
  simp at hq
  rw [hb, List.getElem_map, hq]

theorem trod_rows_bools {t' : TypeId} {m n : Nat} {p : List MemPlace} (ht : P.underlying t = some (.array m t')) (ht' : P.underlying t' = some (.array n e)) (he : P.underlying e = some .bool) (hc : P.cellsOf e = 1) (hn : P.cellsOf t' = n)
    (hm : P.cellsOf t = m * n) {bss : List (List Bool)} (hbb : ∀ bs ∈ bss, bs.length = n)
    (h : DataW.trod enc P w base spare held fuel t cs = some (.agg (bss.map fun bs => .agg (bs.map fun b => .lit (.bool b))), p)) : ∀ i bs, bss[i]? = some bs → (cs.drop (i * n)).take n = bs.map Value.bool := by
  obtain ⟨xs, k, rfl, hx, hl, hxl, hi⟩ := DataW.trod_array ht h
  simp only [Prod.mk.injEq, DataW.agg.injEq] at hx
  obtain ⟨hx, _⟩ := hx
  intro i bs hbs
  have hbl : bss.length = m := by rw [← hxl]; simpa using congrArg List.length hx
  have hil : i < bss.length := (List.getElem?_eq_some_iff.1 hbs).1
  have := hi i (by omega)
  rw [hn, List.getElem?_eq_getElem (show i < xs.length by omega)] at this
  have hq : (bss.map fun bs => (DataW.agg (bs.map fun b => .lit (.bool b)) : DataW H))[i]? = (xs.map (·.1))[i]? := by rw [hx]
  rw [List.getElem?_map, List.getElem?_map, hbs, List.getElem?_eq_getElem (show i < xs.length by omega)] at hq
  simp at hq
  have h2 : xs[i]'(by omega) = (.agg (bs.map fun b => .lit (.bool b)), (xs[i]'(by omega)).2) := by rw [hq]
  rw [h2] at this
  exact trod_row_bools ht' he hc hn this
end

def fitT : List (List Bool) := [[true, true, true, true, true, true], [true, true, true, true, true, false], [true, true, true, false, false, false], [true, true, false, true, false, false], [true, true, false, false, false, false], [true, false, false, false, false, false]]
theorem g_fits : Tryd.prog.globalNamed "castellan/mode.fits" = some 0 := by kernel_rfl
theorem t_fits : (Tryd.prog.globals[0]?).map (·.type) = some 162 := by kernel_rfl
theorem u162 : Tryd.prog.underlying 162 = some (.array 6 135) := by kernel_rfl
theorem u135 : Tryd.prog.underlying 135 = some (.array 6 4) := by kernel_rfl
theorem u4 : Tryd.prog.underlying 4 = some .bool := by kernel_rfl
theorem cell_of_rows {T : List (List Bool)} {W : World} {g : Nat} {n : String} {cs : Array Value} (hg : Tryd.prog.globalNamed n = some g) (hv : W.var? Tryd.prog n = some cs)
    (h : ∀ i bs, T[i]? = some bs → (cs.toList.drop (i * 6)).take 6 = bs.map Value.bool) (hT : T.length = 6) (hR : ∀ bs ∈ T, bs.length = 6) (i j : Nat) (hi : i < 6) (hj : j < 6) :
    W.cell? ⟨g, i * 6 + j, none⟩ = some (.bool ((T.getD i []).getD j false)) := by
  have hi' : i < T.length := by omega
  have h1 := h i T[i] (List.getElem?_eq_getElem hi')
  have hl : (T[i]).length = 6 := hR _ (List.getElem_mem hi')
  rw [World.var?_cell hg hv, ← Array.getElem?_toList]
  have h2 : ((cs.toList.drop (i * 6)).take 6)[j]? = (T[i].map Value.bool)[j]? := by rw [h1]
  rw [List.getElem?_take_of_lt hj, List.getElem?_drop, List.getElem?_map, List.getElem?_eq_getElem (show j < (T[i]).length by omega)] at h2
  rw [h2]
  simp [List.getD, List.getElem?_eq_getElem hi', List.getElem?_eq_getElem (show j < (T[i]).length by omega)]
theorem tab_eq : tabF = (List.range 36).map fun i => Value.bool ((fitT.getD (i / 6) []).getD (i % 6) false) := by kernel_rfl
/-- What the reckoner takes the table to be is what is laid. -/
theorem glob_of_laid {W : World} (h : laidMetH Tryd.prog Rows.waitAddsRow.laid W) : GlobOk Φ W := by
  have h' : laidMet Tryd.prog Rows.waitAddsRow.laid W := h
  obtain ⟨ps, ⟨g, t, cs, fuel, p, q, hg, ht, hv, hd, _⟩, _⟩ := h'
  obtain rfl := Option.some.inj (g_fits.symm.trans hg)
  obtain rfl := Option.some.inj (t_fits.symm.trans ht)
  have hr := trod_rows_bools u162 u135 u4 (by kernel_rfl) (by kernel_rfl) (by kernel_rfl) (bss := fitT) (by decide) hd
  have hl36 : cs.toList.length = 36 := by
    obtain ⟨xs, m, _, _, hlen, _, _⟩ := DataW.trod_array u162 hd
    rw [hlen]; kernel_rfl
  have hrow : ∀ a, a < 6 → fitT[a]? = some (fitT.getD a []) := by decide
  have hcol : ∀ a, a < 6 → ∀ b, b < 6 → (fitT.getD a [])[b]? = some ((fitT.getD a []).getD b false) := by decide
  have e36 : cs.toList = tabF := by
    rw [tab_eq]
    apply List.ext_getElem?
    intro i
    by_cases hi : i < 36
    · have h1 := hr (i / 6) _ (hrow (i / 6) (by omega))
      have h2 : ((cs.toList.drop (i / 6 * 6)).take 6)[i % 6]? = ((fitT.getD (i / 6) []).map Value.bool)[i % 6]? := by rw [h1]
      rw [List.getElem?_take_of_lt (by omega), List.getElem?_drop, show i / 6 * 6 + i % 6 = i by omega] at h2
      rw [h2, List.getElem?_map, List.getElem?_map, hcol (i / 6) (by omega) (i % 6) (by omega), List.getElem?_range hi]
      rfl
    · rw [List.getElem?_eq_none (by omega), List.getElem?_eq_none (by rw [List.length_map, List.length_range]; omega)]
  intro g cs' hl
  have e : lk [(0, tabF)] g = some cs' := hl
  rw [lk_cons, lk_nil] at e
  split at e
  · rename_i e0
    cases e; subst e0
    unfold World.var? at hv
    rw [hg] at hv
    simp only [Option.bind_some] at hv
    split at hv
    · rename_i c t m hh
      cases hv
      refine ⟨t, m, ?_⟩
      rw [hh]
      congr 2
      apply Array.toList_inj.1
      rw [e36]
    · cases hv
  · cases e
theorem odd_ok : OddOk Φ := fun n a h => by
  show Typed byteK (fl n a)
  unfold fl; split <;> first | (cases h; done) | exact Typed.nil _
end Go.Proofs.YteblnjgghbclpaaDoor.wt
