/- The steps from a walk to a row, for a struct of a counter and integers. No condition. -/
import Derived.Test.YtgcejfcfaaidhaaWk
import Derived.ProofKit
import Derived.OpenShut
import Derived.Lib.SmallJoins
set_option linter.unusedSimpArgs false
set_option linter.unusedVariables false
namespace Go.Proofs.Ytgcejfcfaaidhaa
open Go.ChangeShapes Go.WideShapes Go.ChangeAt Go.RowKit Go.Joins

theorem own : ownKnob Try.prog.godebug = none := by kernel_rfl
theorem Try.cells24 : Try.prog.cellsOf 24 = 3 := by kernel_rfl

theorem post_of_below {H : Type} {enc : TypeId × Value → H} {P : Program} {f : Func} {s : ChangeSpec} {apart fresh handsOn : Bool} {W W' : World} {args : Array Value} {v : Value} {ds gs : List (DataW H)} {before pa pv : List MemPlace}
    (hW : DataW.Whole enc P f.params.toList s.vars apart W args.toList ds gs before)
    (hres : ∀ (b : Nat) (sp : Nat → Bool) (hd : Bool), DataW.TrodAll enc P W' b sp hd f.resultTypes.toList (v.resultList f.resultTypes.size) (s.fn H (ds ++ gs)).results [])
    (hargs : ∀ sp : Nat → Bool, (∀ p ∈ before, sp p.block = true) → DataW.TrodAll enc P W' 0 sp true f.params.toList args.toList (s.fn H (ds ++ gs)).args pa)
    (hvars : ∀ sp : Nat → Bool, (∀ p ∈ before, sp p.block = true) → DataW.TrodVars enc P W' sp s.vars (s.fn H (ds ++ gs)).vars pv)
    (hps : before = pa ++ pv) (hb : Below W.heap.size W W') : s.post enc P f apart fresh handsOn false W args v W' := by
  have hold : ∀ p ∈ before, (fun b => decide (b < W.heap.size)) p.block = true := fun p hp => by simpa using hW.lt p hp
  refine ⟨ds, gs, before, [], pa, pv, hW, hres _ _ _, hargs _ hold, hvars _ hold, World.keptBut_mono (fun p hp => ⟨hp, ?_⟩) (hb.frame (· ∈ before)), fun h => by cases h⟩
  rw [hps, List.mem_append] at hp
  exact Or.inr hp

/-- A counter that came in. -/
theorem open_counter {H : Type} {enc : TypeId × Value → H} {r : Reach} {b0 base : Nat} {W : World} {spare : Nat → Bool} {held : Bool} {v : Value} {d : DataW H} {p : List MemPlace}
    (hv : Value.okWide Try.prog W r b0 24 v) (h : DataW.Trod enc Try.prog W base spare held 24 v d p) :
    ∃ x f n : Int, v = .agg #[.int .i64 x, .int .i64 f, .int .u64 n] ∧ d = .agg [.lit (.int .i64 x), .lit (.int .i64 f), .lit (.int .u64 n)] ∧ p = [] ∧
      (Lit.int .i64 x).wf = true ∧ (Lit.int .i64 f).wf = true ∧ (Lit.int .u64 n).wf = true := by
  obtain ⟨c0, c1, c2, y0, y1, y2, m, rfl, rfl, rfl, hy0, hy1, hy2⟩ := open_agg3 Try.underlying24 (by kernel_rfl) Try.cells24 hv h
  obtain ⟨a, e0, rfl, wa⟩ := DataW.trod_int Try.underlying2 hy0
  obtain ⟨b, e1, rfl, wb⟩ := DataW.trod_int Try.underlying2 hy1
  obtain ⟨c, e2, rfl, wc⟩ := DataW.trod_int Try.underlying22 hy2
  simp at e0 e1 e2
  subst e0 e1 e2
  exact ⟨a, b, c, rfl, rfl, rfl, wa, wb, wc⟩

theorem shut_counter {H : Type} {enc : TypeId × Value → H} {base : Nat} {W : World} {spare : Nat → Bool} {held : Bool} {x f n : Int}
    (wx : (Lit.int .i64 x).wf = true) (wf : (Lit.int .i64 f).wf = true) (wn : (Lit.int .u64 n).wf = true) :
    DataW.Trod enc Try.prog W base spare held 24 (.agg #[.int .i64 x, .int .i64 f, .int .u64 n]) (.agg [.lit (.int .i64 x), .lit (.int .i64 f), .lit (.int .u64 n)]) [] :=
  shut_agg3 (y0 := (.lit (.int .i64 x), [])) (y1 := (.lit (.int .i64 f), [])) (y2 := (.lit (.int .u64 n), [])) Try.underlying24 (by kernel_rfl) Try.cells24
    ⟨1, by simp [DataW.trod, Try.underlying2, wx]⟩ ⟨1, by simp [DataW.trod, Try.underlying2, wf]⟩ ⟨1, by simp [DataW.trod, Try.underlying22, wn]⟩

theorem bd_of {x f n : Int} (wx : (Lit.int .i64 x).wf = true) (wf : (Lit.int .i64 f).wf = true) (wn : (Lit.int .u64 n).wf = true) : Bd x f n := by
  have h1 := bounds_i64 wx
  have h2 := bounds_i64 wf
  have h3 := bounds_u64 wn
  exact ⟨by omega, by omega, by omega, by omega, by omega, by omega⟩
end Go.Proofs.Ytgcejfcfaaidhaa
