/- Tests that calls tell, as tests of letters; asked once, used often. No condition. -/
import Derived.Test.YtjgkaimgocnkmabWk
set_option linter.unusedSimpArgs false
set_option linter.unusedVariables false
namespace Go.Proofs.Ytjgkaimgocnkmab
open Go
namespace Sx
def leafBool (c : BE) (l : Leaf) : Bool :=
  match l.val with
  | .bool b => (match dec l.pc c, dec l.pc b with
    | some true, some true => true
    | some false, some false => true
    | none, none => (match dec (b :: l.pc) c, dec (mkNot b :: l.pc) c with
      | some true, some false => true
      | _, _ => false)
    | _, _ => false)
  | _ => false
def outBool (c : BE) : Out → Bool
  | .leaves l => allB (leafBool c) l
  | .fail _ _ => false
/-- A call and its test. -/
abbrev Ask := Nat × List SV × BE
def mkO (e : Ask) : Orac := ⟨e.1, e.2.1, .lit true, .bool e.2.2, .bool e.2.2⟩
noncomputable def asksOk (T : Tab) : List Ask → Bool
  | [] => true
  | e :: l => if outBool e.2.2 (callS T 100000 e.1 e.2.1 []) then (match SV.namesL e.2.1 with
    | [] => asksOk T l
    | _ => false) else false
section
variable {P : Program} {T : Tab} {b0 : World} {ρ : Rho} {w : World}
theorem bool_of (hT : T.Ok P) {n : Nat} {g : FuncId} {args : List SV} {pc : List BE} {c : BE} (h : outBool c (callS T n g args pc) = true) (hρ : ρ.Ok) (hO : OracOk P b0 T.orac ρ) (hp : Holds ρ pc) (hn : SV.namesL args = []) (hw : b0.grownBy w none) :
    Calls P g (SV.denL ρ args).toArray w fun e w' => e = .returned (.bool (c.den ρ)) ∧ w.grownBy w' none := by
  cases hc : callS T n g args pc with
  | fail a b => rw [hc] at h; cases h
  | leaves ls =>
    rw [hc] at h
    refine (calls_of hT hc hρ hO hp hn hw).mono ?_
    rintro e w' ⟨lf, hlf, hh, ρ', hs, rfl, hg, _⟩
    have := allB_ok h lf hlf
    unfold leafBool at this
    refine ⟨?_, hg⟩
    split at this
    · rename_i b hv
      rw [hv]
      simp only [SV.den, BE.den_same hs]
      split at this
      · rename_i h1 h2
        rw [dec_den hρ hh _ _ h1, dec_den hρ hh _ _ h2]
      · rename_i h1 h2
        rw [dec_den hρ hh _ _ h1, dec_den hρ hh _ _ h2]
      · split at this
        · rename_i h1 h2
          cases hb : b.den ρ with
          | true => rw [dec_den hρ (hh.cons hb) _ _ h1]
          | false => rw [dec_den hρ (hh.cons (p := mkNot b) (by rw [mkNot_den, hb]; rfl)) _ _ h2]
        · cases this
      · cases this
    · cases this
theorem asks_ok (hT : T.Ok P) (hρ : ρ.Ok) (hO : OracOk P b0 T.orac ρ) : ∀ (l : List Ask), asksOk T l = true → ∀ o ∈ l.map mkO, (SV.namesL o.args = [] ∧ o.yes.names = [] ∧ o.no.names = []) ∧
    ∀ w, b0.grownBy w none → Calls P o.f (SV.denL ρ o.args).toArray w fun e w' => e = .returned ((if o.c.den ρ then o.yes else o.no).den ρ) ∧ w.grownBy w' none
  | [], _, o, ho => by simp at ho
  | e :: l, h, o, ho => by
    simp only [asksOk] at h
    split at h
    · rename_i h1
      split at h
      · rename_i h2
        simp only [List.map_cons, List.mem_cons] at ho
        rcases ho with rfl | ho
        · refine ⟨⟨h2, rfl, rfl⟩, fun w hw => ?_⟩
          have := bool_of hT h1 hρ hO (fun p hp => by cases hp) h2 hw
          simpa [mkO, BE.den, SV.den] using this
        · exact asks_ok hT hρ hO l h o ho
      · cases h
    · cases h
end
theorem orA_ok (ρ : Rho) (hρ : ρ.Ok) (W : World) (l : List Ask) (h : asksOk (tab orW []) l = true) : OracOk Try.prog W ⟨orW ++ l.map mkO, []⟩ ρ := by
  refine ⟨?_, norom _ _ _⟩
  intro o ho
  rcases List.mem_append.1 ho with ho | ho
  · exact orW_l ρ hρ W o ho
  · exact asks_ok (tab_ok' orW []) hρ (orW_ok ρ hρ W) l h o ho
/- tests, shortly -/
def iv (n : Nat) : SV := .int .i64 (.var .i64 n)
def xv (n : Nat) : IE := .var .i64 n
def within (a : Int) (x : IE) (b : Int) : BE := .and (.le (.lit a) x) (.le x (.lit b))
def shapeC (n l s : Nat) : BE := .and (within 1 (xv n) 64) (.and (within 1 (xv l) 8) (within 1 (xv s) 4))
end Sx
end Go.Proofs.Ytjgkaimgocnkmab
