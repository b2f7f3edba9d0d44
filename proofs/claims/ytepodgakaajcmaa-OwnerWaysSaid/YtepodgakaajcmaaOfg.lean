/- Layer owner: a slice that is a field. No condition. -/
import Derived.Test.YtepodgakaajcmaaOh
set_option linter.unusedVariables false
namespace Go.Proofs.Ytepodgakaajcmaa.Sx
open Go
theorem field_good {H : Type} {enc : TypeId × Value → H} {P : Program} {w : World} {base : Nat} {spare : Nat → Bool} {held : Bool} {t e : TypeId} {fs : Array Field} {j : Nat} {f : Field} {cs : List Value} {dd : DataW H} {ps : List MemPlace} {ks : List CK} {v : Value}
    (hu : P.underlying t = some (.struct fs)) (hj : fs[j]? = some f) (ht : P.underlying f.type = some (.slice e)) (hc1 : P.cellsOf f.type = 1) (hk : flatChk P 6 e ks = true) (hc : P.cellsOf e = ks.length) (hcell : cs[f.offset]? = some v) (hv : ∃ a l c, v = .slice a l c) (h : DataW.Trod enc P w base spare held t (.agg cs.toArray) dd ps) :
    ∃ a len cap, v = .slice a len cap ∧ RGood w ⟨a, len, cap, ks⟩ := by
  obtain ⟨a, l, c, rfl⟩ := hv
  obtain ⟨fuel, hx⟩ := h
  have hx' : DataW.trod enc P w base spare held fuel t cs = some (dd, ps) := by simpa [Value.cells] using hx
  obtain ⟨xs, n, _, _, hlen, hxl, hf⟩ := DataW.trod_struct hu hx'
  have hjs : j < fs.size := (Array.getElem?_eq_some_iff.1 hj).1
  have hx1 := hf j f hj
  rw [List.getElem?_eq_getElem (by omega)] at hx1
  have h1 : (cs.drop f.offset).take (P.cellsOf f.type) = [.slice a l c] := by
    rw [hc1, List.take_one, List.head?_drop, hcell]; rfl
  rw [h1] at hx1
  exact slice_good (dd := (xs[j]'(by omega)).1) (ps := (xs[j]'(by omega)).2) ht hk hc ⟨a, l, c, rfl⟩ ⟨n, hx1⟩
end Go.Proofs.Ytepodgakaajcmaa.Sx
