/- Layer site: a number's text, told; what the laid powers of ten are. No condition but that they are laid. -/
import Derived.Test.YtdfgidogiacmnaaDoorUc
import Derived.Test.YtdfgidogiacmnaaDoorRows
import Derived.OpenShut
import Derived.ChangeArms
import Derived.LaidHandle
import Derived.LaidLaws
import Derived.KernelRfl
import Derived.Sort.Grow
set_option linter.unusedVariables false
set_option linter.unusedSimpArgs false
set_option linter.deprecated false
namespace Go.Proofs.YtdfgidogiacmnaaDoor.sih
open Go Go.Proofs.YtdfgidogiacmnaaDoor.Sx
theorem dec_text (n : Int) : decL n = strV (.string ⟨(Lib.itoa n).toArray⟩) := by
  unfold strV decL encB
  simp
theorem grown_draws {w : World} : ∀ k, w.grownBy (w.drewN k) none := fun k => ⟨rfl, rfl, rfl, Nat.le_refl _, fun _ _ _ => rfl⟩
theorem grown_grow {w : World} (os : Array Obj) : w.grownBy (Go.Sort.grow w os) none := ⟨rfl, rfl, rfl, by simp [Go.Sort.grow], fun k hk _ => by simp [Go.Sort.grow, Array.getElem?_append_left hk]⟩
theorem tab_is {W : World} (h : GlobOk Φ W) : Lib.TabIs Tryd.prog W "internal/strconv.uint64pow10" .u64 Lib.pow10Tab := by
  obtain ⟨t, m, e⟩ := h 0 powV rfl
  unfold Lib.TabIs World.var?
  rw [show Tryd.prog.globalNamed "internal/strconv.uint64pow10" = some 0 by kernel_rfl]
  simp only [Option.bind_some, e]
  rfl
theorem told_fmt : Sx.Told Φ cFmt := by
  refine ⟨⟨⟨by kernel_rfl, by kernel_rfl, by kernel_rfl, by kernel_rfl⟩, names0 rfl rfl (by kernel_rfl) (by kernel_rfl), ?_⟩, ?_⟩
  · intro ρ w hg hr hp
    have hp : Holds ρ [_, _] := hp
    simp only [h_nil, h_cons, d_le, xv, IE.den, and_true] at hp
    have hgl : GlobOk Φ w := by have := hr.1; rw [hg.F] at this; exact this
    have ea : (SV.denL ρ cFmt.pat).toArray = #[.int .i64 (ρ.i .i64 1), .int .i64 10] := rfl
    rw [ea]
    refine (Tryd.strconv_FormatInt_10 (ρ.i .i64 1) hp.1 hp.2 w (tab_is hgl)).mono ?_
    rintro e w' ⟨he, k, os, hw⟩
    refine ⟨ρ, Agr.refl _ _ _, ?_, heap0 ?_⟩
    · rw [he]
      have er : SV.den ρ cFmt.res = .string (byteL (ρ.z.F.l 1 [.int .i64 (ρ.i .i64 1)])) := rfl
      rw [er, hg.F, pl1, dec_text, byteL_strV]
    · rw [hw]
      have g1 := grown_draws (w := w) k
      have g2 := grown_grow (w := w.drewN k) os
      exact ⟨rfl, rfl, rfl, Nat.le_trans g1.size g2.size, fun j hj hn => (g2.block j (Nat.lt_of_lt_of_le hj g1.size) hn).trans (g1.block j hj hn)⟩
  · intro ρ hF hp
    have hp : Holds ρ [_, _] := hp
    simp only [h_nil, h_cons, d_le, xv, IE.den, and_true] at hp
    show Holds ρ [_]
    simp only [h_nil, h_cons, d_le, IE.den, decE, LE.den, AL.den, lenV, xv, and_true]
    rw [hF, pl1]
    have := dec_len hp.1 hp.2
    omega
theorem told_join : Sx.Told Φ cJoin := join4 Φ
theorem told_ix1 : Sx.Told Φ cIx1 := tix1 Φ
theorem told_ixA : Sx.Told Φ cIxA := tixA Φ
theorem told_ixB : Sx.Told Φ cIxB := tixB Φ
theorem glob_of_laid {W : World} (h : laidMetH Tryd.prog Rows.siteHoldsRow.laid W) : GlobOk Φ W := by
  have h' : laidMet Tryd.prog Rows.siteHoldsRow.laid W := h
  obtain ⟨ps, ⟨_, _, _, _, _, _, _, _, _, _, ⟨_, _, _, _, _, _, _, _, _, _, ⟨g, t, cs, fuel, p, q, hg, hty, hvar, hd, _⟩, _⟩, _⟩, _⟩ := h'
  obtain rfl := Option.some.inj ((show Tryd.prog.globalNamed "internal/strconv.uint64pow10" = some 0 by kernel_rfl).symm.trans hg)
  obtain rfl := Option.some.inj ((show (Tryd.prog.globals[0]?).map (·.type) = some 123 by kernel_rfl).symm.trans hty)
  have hd' : DataW.trod (fun _ => ()) Tryd.prog W 0 (fun _ => true) false fuel 123 cs.toList = some (Lib.tabData .u64 Lib.pow10Tab, p) := hd
  have hc := Lib.cells_of_tab (e := 112) (n := 20) Tryd.underlying123 Tryd.underlying112 (by kernel_rfl) (by kernel_rfl) hd'
  intro g' cs' hl
  have e : lk [(0, powV)] g' = some cs' := hl
  rw [lk_cons, lk_nil] at e
  split at e
  · rename_i e0
    cases e; subst e0
    unfold World.var? at hvar
    rw [hg] at hvar
    simp only [Option.bind_some] at hvar
    split at hvar
    · rename_i c t m hh
      cases hvar
      refine ⟨t, m, ?_⟩
      rw [hh]
      congr 2
      apply Array.toList_inj.1
      rw [hc]; rfl
    · cases hvar
  · cases e
end Go.Proofs.YtdfgidogiacmnaaDoor.sih
