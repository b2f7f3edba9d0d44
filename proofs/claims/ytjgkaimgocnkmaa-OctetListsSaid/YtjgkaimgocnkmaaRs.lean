/- Layer octet: two lists, told. No condition. -/
import Derived.Test.YtjgkaimgocnkmaaRa
set_option linter.unusedVariables false
set_option linter.unusedSimpArgs false
set_option linter.deprecated false
namespace Go.Proofs.Ytjgkaimgocnkmaa.oct
open Go Go.Proofs.Ytjgkaimgocnkmaa.Sx
theorem lv_ext {a b : LV} (hl : a.length = b.length) (h : ∀ j, j < a.length → a.getD j [] = b.getD j []) : a = b := by
  apply List.ext_getElem hl
  intro j h1 h2
  have := h j h1
  rw [List.getD_eq_getElem?_getD, List.getD_eq_getElem?_getD, List.getElem?_eq_getElem h1, List.getElem?_eq_getElem h2] at this
  exact this
theorem str_of {L : LV} (hT : Typed kS L) {i : Int} (h0 : 0 ≤ i) (h : i < (L.length : Int)) : ∃ s, L.getD i.toNat [] = [.string s] ∧ strV (celV L i 0) = strV (.string s) := by
  have hm : L[i.toNat]? = some (L.getD i.toNat []) := by
    rw [List.getD_eq_getElem?_getD, List.getElem?_eq_getElem (by omega)]; rfl
  have hc := hT _ (List.mem_of_getElem? hm)
  have e2 : celV L i 0 = (L.getD i.toNat []).getD 0 (.bool false) := rfl
  generalize L.getD i.toNat [] = c at *
  rcases c with _ | ⟨v, _ | ⟨u, l⟩⟩
  · simp [conf, kS] at hc
  · cases v <;> first
      | (exact ⟨_, rfl, by rw [e2]; rfl⟩)
      | (exfalso; revert hc; simp [conf, conf1, kS]; done)
  · exfalso; revert hc; cases v <;> simp [conf, conf1, kS]
theorem str_cell {A B : LV} (hA : Typed kS A) (hB : Typed kS B) {i : Int} (h0 : 0 ≤ i) (ha : i < (A.length : Int)) (hb : i < (B.length : Int)) (h : strV (celV A i 0) = strV (celV B i 0)) : A.getD i.toNat [] = B.getD i.toNat [] := by
  obtain ⟨s, a1, a2⟩ := str_of hA h0 ha
  obtain ⟨t, b1, b2⟩ := str_of hB h0 hb
  rw [a2, b2] at h
  have : s = t := by
    have e := congrArg byteL h
    rwa [byteL_strV, byteL_strV] at e
  rw [a1, b1, this]
noncomputable section
abbrev TTsames : Tab := T oct.Φ cSameS.roms []
def tsames1 : Cfg := { top := ⟨34, over (opqS 10000 26) [(0, (SV.rom 0 (IE.lit 0) (IE.len (LE.rom 0)) none)), (1, (SV.rom 1 (IE.lit 0) (IE.len (LE.rom 1)) none)), (5, (SV.int .i64 (IE.var .i64 1000)))], ogt (loopTodo (bodyOf (T oct.Φ [] []) 34) 0), [], false, none⟩, rest := [], heap := [], next := 1, pc := .lit true :: ([] ++ [(BE.eq (IE.len (LE.rom 0)) (IE.len (LE.rom 1))), (BE.le (IE.lit 0) (IE.var .i64 1000)), (BE.le (IE.var .i64 1000) (IE.len (LE.rom 0))), (BE.le (IE.var .i64 1000) (IE.len (LE.rom 1)))]) }
def tmsames : List (Nat × Cfg) := [(0, startF 34 cSameS.pat [.lit true]), (1, tsames1)]
def selsames : Sel := [(34, 1, 0, 1)]
def pcsames0_0 : List BE := [(BE.lit true)]
def wsames0_0 : VW := (VW.cut 1 ((BE.eq (IE.len (LE.rom 0)) (IE.len (LE.rom 1))) :: pcsames0_0) (Sx.Sub.mk [(.i64, (1000, (IE.lit 0)))] [] [] [] [] []))
def wsames0_1 : VW := (VW.done ((BE.not (BE.eq (IE.len (LE.rom 0)) (IE.len (LE.rom 1)))) :: pcsames0_0) (some [(G.b (BE.leq (LE.rom 0) (LE.rom 1)) (BE.lit false))]))
def vwsames0 : List VW := [wsames0_0, wsames0_1]
def pcsames1_0 : List BE := [(BE.lit true), (BE.eq (IE.len (LE.rom 0)) (IE.len (LE.rom 1))), (BE.le (IE.lit 0) (IE.var .i64 1000)), (BE.le (IE.var .i64 1000) (IE.len (LE.rom 0))), (BE.le (IE.var .i64 1000) (IE.len (LE.rom 1)))]
def pcsames1_1 : List BE := ((BE.not (BE.le (IE.len (LE.rom 0)) (IE.var .i64 1000))) :: pcsames1_0)
def wsames1_0 : VW := (VW.done ((BE.le (IE.len (LE.rom 0)) (IE.var .i64 1000)) :: pcsames1_0) (some [(G.b (BE.leq (LE.rom 0) (LE.rom 1)) (BE.lit true))]))
def wsames1_1 : VW := (VW.cut 1 ((BE.leq (LE.str (LE.rom 0) (IE.var .i64 1000) 0) (LE.str (LE.rom 1) (IE.var .i64 1000) 0)) :: pcsames1_1) (Sx.Sub.mk [(.i64, (1000, (IE.add (IE.var .i64 1000) (IE.lit 1))))] [] [] [] [] []))
def wsames1_2 : VW := (VW.done ((BE.not (BE.leq (LE.str (LE.rom 0) (IE.var .i64 1000) 0) (LE.str (LE.rom 1) (IE.var .i64 1000) 0))) :: pcsames1_1) (some [(G.b (BE.leq (LE.rom 0) (LE.rom 1)) (BE.lit false))]))
def vwsames1 : List VW := [wsames1_0, wsames1_1, wsames1_2]
def vwsames : Nat → List VW
  | 0 => vwsames0
  | 1 => vwsames1
  | _ => []
end
def invsames : Nat → Lt → Prop
  | 1, l => ∀ j : Nat, j < (l.i .i64 1000).toNat → ((l.z.rl 0)).getD j [] = ((l.z.rl 1)).getD j []
  | _, _ => True
def mssames : Nat → Lt → Nat
  | 0, l => (l.z.rl 0).length + 1
  | 1, l => (l.z.rl 0).length - (l.i .i64 1000).toNat
  | _, _ => 0
theorem vcsames0_0 : VC TTsames invsames mssames 0 (startF 34 cSameS.pat [.lit true]) wsames0_0 := by
  intro ρ kn hi hp
  have hF : ρ.z.F = oct.Φ := kn.F
  simp only [h_nil, h_cons, d_le, d_eq, d_not, d_var, d_lit, d_cel, d_leq, d_fn, d_and, d_iff, IE.den, LE.den, AL.den, lenV, true_and, and_true, pcsames0_0, hF, pi2, pi3, pi4, pi5, pi6, pi7, pl1, pi8, pi9, pl3, pi10, pi11, pb1, pl2] at hp
  have p1 := hp
  refine (show (∀ j : Nat, j < (0 : Int).toNat → ((ρ.z.rl 0)).getD j [] = ((ρ.z.rl 1)).getD j []) ∧ (((ρ.z.rl 0).length - (0 : Int).toNat : Nat) < (ρ.z.rl 0).length + 1) from ?_)
  exact ⟨fun j hj => by simp at hj, by omega⟩
theorem vcsames0_1 : VC TTsames invsames mssames 0 (startF 34 cSameS.pat [.lit true]) wsames0_1 := by
  intro ρ kn hi hp
  have hF : ρ.z.F = oct.Φ := kn.F
  simp only [h_nil, h_cons, d_le, d_eq, d_not, d_var, d_lit, d_cel, d_leq, d_fn, d_and, d_iff, IE.den, LE.den, AL.den, lenV, true_and, and_true, pcsames0_0, hF, pi2, pi3, pi4, pi5, pi6, pi7, pl1, pi8, pi9, pl3, pi10, pi11, pb1, pl2] at hp
  have p1 := hp
  refine all_cons (show (eqV (ρ.z.rl 0) (ρ.z.rl 1)) = false from ?_) (all_nil)
  all_goals try simp only [hF, pi2, pi3, pi4, pi5, pi6, pi7, pl1, pi8, pi9, pl3, pi10, pi11, pb1, pl2]
  exact Bool.eq_false_iff.2 fun h => p1 (by rw [show ρ.z.rl 0 = ρ.z.rl 1 from by simpa [eqV] using h])
def ivsames1 (ρ : Rho) : Prop := ∀ j : Nat, j < (ρ.i .i64 1000).toNat → ((ρ.z.rl 0)).getD j [] = ((ρ.z.rl 1)).getD j []
theorem vcsames1_0 : VC TTsames invsames mssames 1 tsames1 wsames1_0 := by
  intro ρ kn hi hp
  have hi : ivsames1 ρ := hi
  unfold ivsames1 at hi
  have hF : ρ.z.F = oct.Φ := kn.F
  simp only [h_nil, h_cons, d_le, d_eq, d_not, d_var, d_lit, d_cel, d_leq, d_fn, d_and, d_iff, IE.den, LE.den, AL.den, lenV, true_and, and_true, pcsames1_0, hF, pi2, pi3, pi4, pi5, pi6, pi7, pl1, pi8, pi9, pl3, pi10, pi11, pb1, pl2] at hp
  obtain ⟨p1, p2, p3, p4, p5⟩ := hp
  refine all_cons (show (eqV (ρ.z.rl 0) (ρ.z.rl 1)) = true from ?_) (all_nil)
  all_goals try simp only [hF, pi2, pi3, pi4, pi5, pi6, pi7, pl1, pi8, pi9, pl3, pi10, pi11, pb1, pl2]
  have e : ρ.z.rl 0 = ρ.z.rl 1 := lv_ext (by omega) fun j hj => hi j (by omega)
  show eqV (ρ.z.rl 0) (ρ.z.rl 1) = true
  rw [e]; simp [eqV]
theorem vcsames1_1 : VC TTsames invsames mssames 1 tsames1 wsames1_1 := by
  intro ρ kn hi hp
  have hi : ivsames1 ρ := hi
  unfold ivsames1 at hi
  have hF : ρ.z.F = oct.Φ := kn.F
  simp only [h_nil, h_cons, d_le, d_eq, d_not, d_var, d_lit, d_cel, d_leq, d_fn, d_and, d_iff, IE.den, LE.den, AL.den, lenV, true_and, and_true, pcsames1_1, pcsames1_0, hF, pi2, pi3, pi4, pi5, pi6, pi7, pl1, pi8, pi9, pl3, pi10, pi11, pb1, pl2] at hp
  obtain ⟨p1, p2, p3, p4, p5, p6⟩ := hp
  refine (show (∀ j : Nat, j < ((ρ.i .i64 1000) + (1 : Int)).toNat → ((ρ.z.rl 0)).getD j [] = ((ρ.z.rl 1)).getD j []) ∧ (((ρ.z.rl 0).length - ((ρ.i .i64 1000) + (1 : Int)).toNat : Nat) < (ρ.z.rl 0).length - (ρ.i .i64 1000).toNat) from ?_)
  refine ⟨fun j hj => ?_, by omega⟩
  by_cases c : j < (ρ.i .i64 1000).toNat
  · exact hi j c
  · obtain rfl : j = (ρ.i .i64 1000).toNat := by omega
    exact str_cell (kn.rom 0 _ _ rfl) (kn.rom 1 _ _ rfl) (by omega) (by omega) (by omega) p1
theorem vcsames1_2 : VC TTsames invsames mssames 1 tsames1 wsames1_2 := by
  intro ρ kn hi hp
  have hi : ivsames1 ρ := hi
  unfold ivsames1 at hi
  have hF : ρ.z.F = oct.Φ := kn.F
  simp only [h_nil, h_cons, d_le, d_eq, d_not, d_var, d_lit, d_cel, d_leq, d_fn, d_and, d_iff, IE.den, LE.den, AL.den, lenV, true_and, and_true, pcsames1_1, pcsames1_0, hF, pi2, pi3, pi4, pi5, pi6, pi7, pl1, pi8, pi9, pl3, pi10, pi11, pb1, pl2] at hp
  obtain ⟨p1, p2, p3, p4, p5, p6⟩ := hp
  refine all_cons (show (eqV (ρ.z.rl 0) (ρ.z.rl 1)) = false from ?_) (all_nil)
  all_goals try simp only [hF, pi2, pi3, pi4, pi5, pi6, pi7, pl1, pi8, pi9, pl3, pi10, pi11, pb1, pl2]
  refine Bool.eq_false_iff.2 fun h => p1 ?_
  rw [show ρ.z.rl 0 = ρ.z.rl 1 from by simpa [eqV] using h]
theorem vcssames0 : ∀ v ∈ vwsames 0, VC TTsames invsames mssames 0 (startF 34 cSameS.pat [.lit true]) v := all_cons vcsames0_0 (all_cons vcsames0_1 (all_nil))
theorem oksames0 : cfgOk (startF 34 cSameS.pat [.lit true]) = true := by kernel_rfl
theorem sgsames0 : segL cSameS.roms cSameS (seg TTsames selsames 600 tmsames (startF 34 cSameS.pat [.lit true])) = (true, codesR tmsames (views (seg TTsames selsames 600 tmsames (startF 34 cSameS.pat [.lit true]))), vwsames 0) := by kernel_rfl
theorem vcssames1 : ∀ v ∈ vwsames 1, VC TTsames invsames mssames 1 tsames1 v := all_cons vcsames1_0 (all_cons vcsames1_1 (all_cons vcsames1_2 (all_nil)))
theorem oksames1 : cfgOk tsames1 = true := by kernel_rfl
theorem sgsames1 : segL cSameS.roms cSameS (seg TTsames selsames 600 tmsames tsames1) = (true, codesR tmsames (views (seg TTsames selsames 600 tmsames tsames1)), vwsames 1) := by kernel_rfl
theorem lnsames0 : ∀ ρ, Known TTsames (startF 34 cSameS.pat [.lit true]) ρ → invsames 0 ρ.lt → Holds ρ (leanOf (Cfg.pc (startF 34 cSameS.pat [.lit true]))) := by
  intro ρ _ _
  exact (show Holds ρ [] from fun p hp => by cases hp)
theorem lnsames1 : ∀ ρ, Known TTsames tsames1 ρ → invsames 1 ρ.lt → Holds ρ (leanOf (Cfg.pc tsames1)) := by
  intro ρ _ _
  exact (show Holds ρ [] from fun p hp => by cases hp)
theorem told_sames : Sx.Told oct.Φ cSameS := by
  refine told_of (cs := []) (all_nil) (sel := selsames) 600 tmsames invsames mssames vwsames 0 (pc0 := [.lit true]) (by kernel_rfl) (by kernel_rfl) (by kernel_rfl) (post_nil rfl) ?_ ?_ ?_ rfl (fun ρ _ _ => by simp [Holds, BE.den]) (fun _ _ _ _ => trivial) ?_
  · intro k C h
    have := lk_mem h
    simp only [tmsames, List.mem_cons, Prod.mk.injEq, List.not_mem_nil, or_false] at this
    rcases this with ⟨rfl, rfl⟩ | ⟨rfl, rfl⟩
    · exact oksames0
    · exact oksames1
  · intro k C h
    have := lk_mem h
    simp only [tmsames, List.mem_cons, Prod.mk.injEq, List.not_mem_nil, or_false] at this
    rcases this with ⟨rfl, rfl⟩ | ⟨rfl, rfl⟩
    · exact sgsames0
    · exact sgsames1
  · intro k C h
    have := lk_mem h
    simp only [tmsames, List.mem_cons, Prod.mk.injEq, List.not_mem_nil, or_false] at this
    rcases this with ⟨rfl, rfl⟩ | ⟨rfl, rfl⟩
    · exact vcssames0
    · exact vcssames1
  · intro k C h
    have := lk_mem h
    simp only [tmsames, List.mem_cons, Prod.mk.injEq, List.not_mem_nil, or_false] at this
    rcases this with ⟨rfl, rfl⟩ | ⟨rfl, rfl⟩
    · exact lnsames0
    · exact lnsames1
end Go.Proofs.Ytjgkaimgocnkmaa.oct
