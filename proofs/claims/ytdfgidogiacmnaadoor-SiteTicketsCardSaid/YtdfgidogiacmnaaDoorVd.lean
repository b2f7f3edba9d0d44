/- Layer site: a number's text, told; what the laid powers of ten are. No condition but that they are laid. -/
import Derived.Test.YtdfgidogiacmnaaDoorVc
import Derived.Test.YtdfgidogiacmnaaDoorVx
import Derived.Test.YtdfgidogiacmnaaDoorRows
import Derived.OpenShut
import Derived.ChangeArms
import Derived.LaidHandle
import Derived.LaidLaws
import Derived.KernelRfl
import Derived.Sort.Grow
import Derived.Lib.SmallJoins
set_option linter.unusedVariables false
set_option linter.unusedSimpArgs false
set_option linter.deprecated false
namespace Go.Proofs.YtdfgidogiacmnaaDoor.sih
open Go Go.Proofs.YtdfgidogiacmnaaDoor.Sx
theorem dec_text (n : Int) : decL n = strV (.string ⟨(Lib.itoa n).toArray⟩) := by
  unfold strV decL encB
  simp
theorem grown_draws {w : World} : ∀ k, w.grownBy (w.drewN k) none := fun k => ⟨rfl, rfl, rfl, Nat.le_refl _, fun _ _ _ => rfl⟩
theorem grown_grow {w : World} (os : Array Obj) : w.grownBy (Go.Sort.grow w os) none := ⟨rfl, rfl, rfl, by simp [Go.Sort.grow], fun k hk _ => by simp [Go.Sort.grow, Array.getElem?_append_left hk]⟩
theorem tab_is {W : World} (h : GlobOk Φ W) : Lib.TabIs Tryd.prog W "internal/strconv.uint64pow10" .u64 Lib.pow10Tab := by
  obtain ⟨t, m, e⟩ := h 0 powV rfl
  unfold Lib.TabIs World.var?
  rw [show Tryd.prog.globalNamed "internal/strconv.uint64pow10" = some 0 by kernel_rfl]
  simp only [Option.bind_some, e]
  rfl
theorem told_fmt : Sx.Told Φ cFmt := by
  refine ⟨⟨⟨by kernel_rfl, by kernel_rfl, by kernel_rfl, by kernel_rfl⟩, names0 rfl rfl (by kernel_rfl) (by kernel_rfl), ?_⟩, ?_⟩
  · intro ρ w hg hr hp
    have hp : Holds ρ [_, _] := hp
    simp only [h_nil, h_cons, d_le, xv, IE.den, and_true] at hp
    have hgl : GlobOk Φ w := by have := hr.1; rw [hg.F] at this; exact this
    have ea : (SV.denL ρ cFmt.pat).toArray = #[.int .i64 (ρ.i .i64 1), .int .i64 10] := rfl
    rw [ea]
    refine (Tryd.internal_strconv_FormatInt_10 (ρ.i .i64 1) hp.1 hp.2 w (tab_is hgl)).mono ?_
    rintro e w' ⟨he, k, os, hw⟩
    refine ⟨ρ, Agr.refl _ _ _, ?_, heap0 ?_⟩
    · rw [he]
      have er : SV.den ρ cFmt.res = .string (byteL (ρ.z.F.l 1 [.int .i64 (ρ.i .i64 1)])) := rfl
      rw [er, hg.F, pl1, dec_text, byteL_strV]
    · rw [hw]
      have g1 := grown_draws (w := w) k
      have g2 := grown_grow (w := w.drewN k) os
      exact ⟨rfl, rfl, rfl, Nat.le_trans g1.size g2.size, fun j hj hn => (g2.block j (Nat.lt_of_lt_of_le hj g1.size) hn).trans (g1.block j hj hn)⟩
  · intro ρ hF hp
    have hp : Holds ρ [_, _] := hp
    simp only [h_nil, h_cons, d_le, xv, IE.den, and_true] at hp
    show Holds ρ [_]
    simp only [h_nil, h_cons, d_le, IE.den, decE, LE.den, AL.den, lenV, xv, and_true]
    rw [hF, pl1]
    have := dec_len hp.1 hp.2
    omega
theorem bytes_of {l : LV} (h : Typed byteK l) : ∃ d : List UInt8, (byteL l).data.toList = d ∧ l = d.map encB := by
  refine ⟨(byteL l).data.toList, rfl, ?_⟩
  have := strV_byteL h
  rw [← this]
  show (byteL l).data.toList.map _ = ((byteL (strV (.string (byteL l)))).data.toList).map _
  rw [byteL_strV]
  rfl
theorem data_map (d : List UInt8) : (byteL (d.map encB)).data.toList = d := by
  have : d.map encB = strV (.string ⟨d.toArray⟩) := by unfold strV encB; simp
  rw [this, byteL_strV]
theorem told_pi : Sx.Told Φ cPI := by
  refine ⟨⟨⟨by kernel_rfl, by kernel_rfl, by kernel_rfl, by kernel_rfl⟩, names0 rfl rfl (by kernel_rfl) (by kernel_rfl), ?_⟩, post_nil rfl⟩
  intro ρ w hg hr hp
  have hp : Holds ρ [_, _] := hp
  simp only [h_nil, h_cons, d_le, xv, IE.den, and_true] at hp
  have ea : (SV.denL ρ cPI.pat).toArray = #[.string (byteL (ρ.z.F.l 1 [.int .i64 (ρ.i .i64 4)])), .int .i64 10, .int .i64 64] := rfl
  have eb : (byteL (decL (ρ.i .i64 4))).data.toList = Lib.decDigits (ρ.i .i64 4).toNat := by
    unfold decL; rw [data_map, itoa_of hp.1]
  have hlen := dec_len (n := ρ.i .i64 4) (by omega) (by omega)
  rw [ea, hg.F, pl1]
  refine (Tryd.strconv_ParseInt_10_at64_ok (byteL (decL (ρ.i .i64 4))) (by rw [byteL_size]; omega) (ρ.i .i64 4) (by
    rw [eb, parse_dec (by omega), Int.toNat_of_nonneg hp.1]) w).mono ?_
  rintro e w' ⟨he, hw⟩
  refine ⟨ρ, Agr.refl _ _ _, ?_, heap0 ?_⟩
  · rw [he]; rfl
  · rcases hw with hw | ⟨t, hw⟩
    · rw [hw]; exact ⟨rfl, rfl, rfl, Nat.le_refl _, fun _ _ _ => rfl⟩
    · rw [hw]; exact below_grown (Joins.below_bytesWorld _ w 5 t (Nat.le_refl _))
theorem ix_call {w : World} {s : ByteArray} {k : Int} (h : Lib.indexByte s.data.toList 46 = k) : Calls Tryd.prog 73 #[.string s, .string ⟨#[46]⟩] w fun e w' => e = .returned (.int .i64 k) ∧ w' = w := by
  refine (Tryd.strings_Index_one s 46 w).mono ?_
  rintro e w' ⟨he, hw⟩
  refine ⟨?_, hw⟩
  rw [he, h]
theorem same_world {ρ : Rho} {w : World} : HeapR ρ w [] w := heap0 ⟨rfl, rfl, rfl, Nat.le_refl _, fun _ _ _ => rfl⟩
theorem told_ixS : Sx.Told Φ cIxS := by
  refine ⟨⟨⟨by kernel_rfl, by kernel_rfl, by kernel_rfl, by kernel_rfl⟩, names0 rfl rfl (by kernel_rfl) (by kernel_rfl), ?_⟩, ?_⟩
  · intro ρ w hg hr hp
    have hp : Holds ρ [_, _] := hp
    simp only [h_nil, h_cons, d_le, d_eq, xv, IE.den, and_true] at hp
    obtain ⟨r, hr1, hr2⟩ := bytes_of (hg.ok.lodd 5 rfl)
    have ea : (SV.denL ρ cIxS.pat).toArray = #[.string (byteL (ρ.z.F.l 1 [.int .i64 (ρ.i .i64 4)] ++ ([dotV] ++ ρ.l 5))), .string ⟨#[46]⟩] := rfl
    have er : SV.den ρ cIxS.res = .int .i64 (((ρ.z.F.l 1 [.int .i64 (ρ.i .i64 4)]).length : Nat) : Int) := rfl
    have es : decL (ρ.i .i64 4) ++ ([dotV] ++ ρ.l 5) = (Lib.decDigits (ρ.i .i64 4).toNat ++ 46 :: r).map encB := by
      rw [hr2, List.map_append, List.map_cons]
      unfold decL
      rw [itoa_of hp.1]; rfl
    rw [hg.F, pl1] at er
    rw [ea, hg.F, pl1]
    have hk : Lib.indexByte (byteL (decL (ρ.i .i64 4) ++ ([dotV] ++ ρ.l 5))).data.toList 46 = ((decL (ρ.i .i64 4)).length : Int) := by
      rw [es, data_map, ix_dec _ _ (dec_ne _)]
      unfold decL
      rw [itoa_of hp.1, List.length_map]
    refine (ix_call (w := w) hk).mono ?_
    rintro e w' ⟨he, hw⟩
    subst hw
    exact ⟨ρ, Agr.refl _ _ _, by rw [he, er], same_world⟩
  · intro ρ hF hp
    have hp : Holds ρ [_, _] := hp
    simp only [h_nil, h_cons, d_le, d_eq, xv, IE.den, and_true] at hp
    show Holds ρ [_, _]
    simp only [h_nil, h_cons, d_le, IE.den, decE, LE.den, AL.den, lenV, xv, and_true]
    rw [hF, pl1]
    have h1 := dec_len (n := ρ.i .i64 4) (by omega) (by omega)
    have h2 : 1 ≤ (decL (ρ.i .i64 4)).length := by
      unfold decL
      rw [itoa_of hp.1, List.length_map, Lib.decDigits_length]
      exact Lib.nDigits_pos _
    omega
theorem told_ixL : Sx.Told Φ cIxL := by
  refine ⟨⟨⟨by kernel_rfl, by kernel_rfl, by kernel_rfl, by kernel_rfl⟩, names0 rfl rfl (by kernel_rfl) (by kernel_rfl), ?_⟩, post_nil rfl⟩
  intro ρ w hg hr hp
  have hp : Holds ρ [_] := hp
  simp only [h_nil, h_cons, d_le, d_eq, xv, IE.den, and_true] at hp
  have ea : (SV.denL ρ cIxL.pat).toArray = #[.string (byteL (ρ.z.F.l 1 [.int .i64 (ρ.i .i64 4)])), .string ⟨#[46]⟩] := rfl
  have er : SV.den ρ cIxL.res = .int .i64 (-1) := rfl
  rw [ea, hg.F, pl1]
  have hk : Lib.indexByte (byteL (decL (ρ.i .i64 4))).data.toList 46 = -1 := by
    unfold decL
    rw [data_map, itoa_of hp, ix_none _ (dec_ne _)]
  refine (ix_call (w := w) hk).mono ?_
  rintro e w' ⟨he, hw⟩
  subst hw
  exact ⟨ρ, Agr.refl _ _ _, by rw [he, er], same_world⟩
theorem told_join : Sx.Told Φ cJoin := join4 Φ
theorem told_ix1 : Sx.Told Φ cIx1 := tix1 Φ
theorem told_ixA : Sx.Told Φ cIxA := tixA Φ
theorem told_ixB : Sx.Told Φ cIxB := tixB Φ
theorem glob_of_laid {W : World} (h : laidMetH Tryd.prog Rows.siteTicketsRow.laid W) : GlobOk Φ W := by
  have h' : laidMet Tryd.prog Rows.siteTicketsRow.laid W := h
  obtain ⟨ps, ⟨_, _, _, _, _, _, _, _, _, _, ⟨_, _, _, _, _, _, _, _, _, _, ⟨g, t, cs, fuel, p, q, hg, hty, hvar, hd, _⟩, _⟩, _⟩, _⟩ := h'
  obtain rfl := Option.some.inj ((show Tryd.prog.globalNamed "internal/strconv.uint64pow10" = some 0 by kernel_rfl).symm.trans hg)
  obtain rfl := Option.some.inj ((show (Tryd.prog.globals[0]?).map (·.type) = some 123 by kernel_rfl).symm.trans hty)
  have hd' : DataW.trod (fun _ => ()) Tryd.prog W 0 (fun _ => true) false fuel 123 cs.toList = some (Lib.tabData .u64 Lib.pow10Tab, p) := hd
  have hc := Lib.cells_of_tab (e := 112) (n := 20) Tryd.underlying123 Tryd.underlying112 (by kernel_rfl) (by kernel_rfl) hd'
  intro g' cs' hl
  have e : lk [(0, powV)] g' = some cs' := hl
  rw [lk_cons, lk_nil] at e
  split at e
  · rename_i e0
    cases e; subst e0
    unfold World.var? at hvar
    rw [hg] at hvar
    simp only [Option.bind_some] at hvar
    split at hvar
    · rename_i c t m hh
      cases hvar
      refine ⟨t, m, ?_⟩
      rw [hh]
      congr 2
      apply Array.toList_inj.1
      rw [hc]; rfl
    · cases hvar
  · cases e
end Go.Proofs.YtdfgidogiacmnaaDoor.sih
