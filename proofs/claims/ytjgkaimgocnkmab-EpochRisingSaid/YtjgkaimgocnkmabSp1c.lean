/- A reckoner of Go's small steps over letters: letters that stand for other things, what that means. No condition. -/
import Derived.Test.YtjgkaimgocnkmabSp1b
set_option linter.unusedVariables false
set_option linter.unusedSimpArgs false
namespace Go.Proofs.Ytjgkaimgocnkmab.Sx
open Go
/-- Letters that stand for other things. -/
noncomputable def Rho.sb (ρ : Rho) (S : Sub) : Rho :=
  { i := fun k n => match lkI S.i k n with
      | some e => e.den ρ
      | none => ρ.i k n
    b := fun n => match lk S.b n with
      | some e => e.den ρ
      | none => ρ.b n
    l := fun n => match lk S.l n with
      | some e => e.den ρ
      | none => ρ.l n
    v := fun n => match lk S.v n with
      | some v => v.den ρ
      | none => ρ.v n
    a := fun n => ρ.a (nmA S.a n)
    z := { ρ.z with rl := fun r => match lk S.r r with
      | some l => l.den ρ
      | none => ρ.z.rl r } }
section
variable {ρ : Rho} {S : Sub} {pc : List BE}
mutual
theorem IE.sb_den (hρ : ρ.Ok) (hp : Holds ρ pc) : ∀ (e : IE), (e.sb pc S).den ρ = e.den (ρ.sb S)
  | .lit n => by simp only [IE.sb, IE.den]
  | .var k n => by
    simp only [IE.sb, IE.den, Rho.sb]
    cases lkI S.i k n <;> simp only [IE.den]
  | .add x y => by simp only [IE.sb, IE.den, IE.sb_den hρ hp x, IE.sb_den hρ hp y]
  | .sub x y => by simp only [IE.sb, IE.den, IE.sb_den hρ hp x, IE.sb_den hρ hp y]
  | .mul x y => by simp only [IE.sb, IE.den, IE.sb_den hρ hp x, IE.sb_den hρ hp y]
  | .wrap k x => by simp only [IE.sb, IE.den, IE.sb_den hρ hp x]
  | .bin op k x y => by simp only [IE.sb, IE.den, IE.sb_den hρ hp x, IE.sb_den hρ hp y]
  | .cel k l i j => by simp only [IE.sb, IE.den, LE.sb_den hρ hp l, IE.sb_den hρ hp i]
  | .len l => by simp only [IE.sb, IE.den]; rw [lenE_den hρ hp, LE.sb_den hρ hp l]; rfl
  | .rcap r => by simp only [IE.sb, IE.den, Rho.sb]
  | .fn k n a => by simp only [IE.sb, IE.den, AL.sb_den hρ hp a]; rfl
  | .ite c x y => by simp only [IE.sb, IE.den, BE.sb_den hρ hp c, IE.sb_den hρ hp x, IE.sb_den hρ hp y]
theorem BE.sb_den (hρ : ρ.Ok) (hp : Holds ρ pc) : ∀ (e : BE), (e.sb pc S).den ρ = e.den (ρ.sb S)
  | .lit b => by simp only [BE.sb, BE.den]
  | .var n => by
    simp only [BE.sb, BE.den, Rho.sb]
    cases lk S.b n <;> simp only [BE.den]
  | .le x y => by simp only [BE.sb, BE.den, IE.sb_den hρ hp x, IE.sb_den hρ hp y]
  | .eq x y => by simp only [BE.sb, BE.den, IE.sb_den hρ hp x, IE.sb_den hρ hp y]
  | .not x => by simp only [BE.sb, mkNot_den, BE.den, BE.sb_den hρ hp x]
  | .and x y => by simp only [BE.sb, mkAnd_den, BE.den, BE.sb_den hρ hp x, BE.sb_den hρ hp y]
  | .iff x y => by simp only [BE.sb, BE.den, BE.sb_den hρ hp x, BE.sb_den hρ hp y]
  | .cel l i j => by simp only [BE.sb, BE.den, LE.sb_den hρ hp l, IE.sb_den hρ hp i]
  | .leq a b => by simp only [BE.sb, BE.den, LE.sb_den hρ hp a, LE.sb_den hρ hp b]
  | .rnil r => by simp only [BE.sb, BE.den, Rho.sb]
  | .fn n a => by simp only [BE.sb, BE.den, AL.sb_den hρ hp a]; rfl
theorem LE.sb_den (hρ : ρ.Ok) (hp : Holds ρ pc) : ∀ (e : LE), (e.sb pc S).den ρ = e.den (ρ.sb S)
  | .nil => by simp only [LE.sb, LE.den]
  | .var n => by
    simp only [LE.sb, LE.den, Rho.sb]
    cases lk S.l n <;> simp only [LE.den]
  | .rom r => by
    simp only [LE.sb, LE.den, Rho.sb]
    cases lk S.r r <;> simp only [LE.den]
  | .cat a b => by simp only [LE.sb, LE.den, LE.sb_den hρ hp a, LE.sb_den hρ hp b]
  | .one c => by simp only [LE.sb, LE.den, AL.sb_den hρ hp c]
  | .set a i c => by simp only [LE.sb, LE.den, LE.sb_den hρ hp a, IE.sb_den hρ hp i, AL.sb_den hρ hp c]
  | .take a i => by simp only [LE.sb, LE.den, LE.sb_den hρ hp a, IE.sb_den hρ hp i]
  | .drop a i => by simp only [LE.sb, LE.den, LE.sb_den hρ hp a, IE.sb_den hρ hp i]
  | .rep c n => by simp only [LE.sb, LE.den, AL.sb_den hρ hp c, IE.sb_den hρ hp n]
  | .str a i j => by simp only [LE.sb, LE.den, LE.sb_den hρ hp a, IE.sb_den hρ hp i]
  | .fn n a => by simp only [LE.sb, LE.den, AL.sb_den hρ hp a]; rfl
theorem AL.sb_den (hρ : ρ.Ok) (hp : Holds ρ pc) : ∀ (e : AL), (e.sb pc S).den ρ = e.den (ρ.sb S)
  | .nil => by simp only [AL.sb, AL.den]
  | .int k e r => by simp only [AL.sb, AL.den, IE.sb_den hρ hp e, AL.sb_den hρ hp r]
  | .bool b r => by simp only [AL.sb, AL.den, BE.sb_den hρ hp b, AL.sb_den hρ hp r]
  | .lst l r => by simp only [AL.sb, AL.den, LE.sb_den hρ hp l, AL.sb_den hρ hp r]
  | .cel l i j r => by simp only [AL.sb, AL.den, LE.sb_den hρ hp l, IE.sb_den hρ hp i, AL.sb_den hρ hp r]
end
theorem sbPc_holds (hρ : ρ.Ok) (hp : Holds ρ pc) : ∀ (l : List BE), Holds ρ (sbPc pc S l) ↔ Holds (ρ.sb S) l
  | [] => ⟨(fun _ p h => by cases h), (fun _ p h => by cases h)⟩
  | p :: l => by
    have ih := sbPc_holds hρ hp l
    simp only [sbPc]
    constructor
    · intro h
      exact (ih.1 h.tail).cons (by rw [← BE.sb_den hρ hp]; exact h.head)
    · intro h
      exact (ih.2 h.tail).cons (by rw [BE.sb_den hρ hp]; exact h.head)
theorem subIs_den (hρ : ρ.Ok) (hp : Holds ρ pc) (l : List IE) : (subIs pc S l).map (IE.den ρ) = l.map (IE.den (ρ.sb S)) := by
  induction l with
  | nil => rfl
  | cons e l ih => simp [subIs, IE.sb_den hρ hp, ih]
theorem subFn_den (fn : Fn) : fnDen ρ (subFn S fn) = fnDen (ρ.sb S) fn := by
  cases fn <;> rfl
theorem subO_den (hρ : ρ.Ok) (hp : Holds ρ pc) (n : Nat) (c : Option IE) : capDen ρ n (subO pc S c) = capDen (ρ.sb S) n c := by
  cases c <;> simp [subO, capDen, IE.sb_den hρ hp]
mutual
theorem SV.sb_den (hρ : ρ.Ok) (hp : Holds ρ pc) : ∀ (v : SV), (v.sb pc S).den ρ = v.den (ρ.sb S)
  | .bool b => by simp [SV.sb, SV.den, BE.sb_den hρ hp]
  | .int k e => by simp [SV.sb, SV.den, IE.sb_den hρ hp]
  | .ptr n off => by simp [SV.sb, SV.den, Rho.sb]
  | .slice n off len cap => by simp [SV.sb, SV.den, Rho.sb]
  | .func fn f c => by simp [SV.sb, SV.den, subFn_den, SV.sbL_den hρ hp f, SV.sbL_den hρ hp c]
  | .iface t v => by simp [SV.sb, SV.den, SV.sb_den hρ hp v]
  | .agg cs => by simp [SV.sb, SV.den, SV.sbL_den hρ hp cs]
  | .tup vs => by simp [SV.sb, SV.den, SV.sbL_den hρ hp vs]
  | .opq n => by
    simp only [SV.sb, SV.den, Rho.sb]
    cases lk S.v n <;> simp [SV.den]
  | .const v => by simp [SV.sb, SV.den]
  | .str bs => by simp only [SV.sb, SV.den, subIs_den hρ hp]
  | .sl n cn sz off len => by simp [SV.sb, SV.den, Rho.sb]
  | .rom r off len cap => by simp only [SV.sb, SV.den, IE.sb_den hρ hp, subO_den hρ hp]; rfl
  | .rptr r i c => by simp only [SV.sb, SV.den, IE.sb_den hρ hp]; rfl
  | .sll n cn sz off len cap => by simp only [SV.sb, SV.den, IE.sb_den hρ hp, subO_den hρ hp]; rfl
  | .lptr n sz i c => by simp only [SV.sb, SV.den, IE.sb_den hρ hp]; rfl
  | .lstr l => by simp only [SV.sb, SV.den, LE.sb_den hρ hp]
  | .cel l i j => by simp only [SV.sb, SV.den, LE.sb_den hρ hp, IE.sb_den hρ hp]
theorem SV.sbL_den (hρ : ρ.Ok) (hp : Holds ρ pc) : ∀ (l : List SV), SV.denL ρ (SV.sbL pc S l) = SV.denL (ρ.sb S) l
  | [] => rfl
  | v :: l => by simp [SV.sbL, SV.denL, SV.sb_den hρ hp v, SV.sbL_den hρ hp l]
end
end
/-- The same letters, functions, contents. -/
structure Base (ρ ρ' : Rho) : Prop where
  i : ∀ k n, n < 1000 → ρ'.i k n = ρ.i k n
  b : ∀ n, n < 1000 → ρ'.b n = ρ.b n
  l : ∀ n, n < 1000 → ρ'.l n = ρ.l n
  F : ρ'.z.F = ρ.z.F
  rl : ρ'.z.rl = ρ.z.rl
section
variable {ρ ρ' : Rho}
theorem ifb {a b : Bool} (h : (if a then b else false) = true) : a = true ∧ b = true := by
  cases a <;> simp_all
mutual
theorem IE.free_den (h : Base ρ ρ') : ∀ (e : IE), e.free = true → e.den ρ' = e.den ρ
  | .lit n, _ => by simp only [IE.den]
  | .var k n, f => by simp only [IE.den, h.i k n (by simpa [IE.free, Nat.blt_eq] using f)]
  | .add x y, f => by simp only [IE.den, IE.free_den h x (ifb f).1, IE.free_den h y (ifb f).2]
  | .sub x y, f => by simp only [IE.den, IE.free_den h x (ifb f).1, IE.free_den h y (ifb f).2]
  | .mul x y, f => by simp only [IE.den, IE.free_den h x (ifb f).1, IE.free_den h y (ifb f).2]
  | .wrap k x, f => by simp only [IE.den, IE.free_den h x f]
  | .bin op k x y, f => by simp only [IE.den, IE.free_den h x (ifb f).1, IE.free_den h y (ifb f).2]
  | .cel k l i j, f => by simp only [IE.den, LE.free_den h l (ifb f).1, IE.free_den h i (ifb f).2]
  | .len l, f => by simp only [IE.den, LE.free_den h l f]
  | .rcap r, f => by cases f
  | .fn k n a, f => by simp only [IE.den, AL.free_den h a f, h.F]
  | .ite c x y, f => by simp only [IE.den, BE.free_den h c (ifb f).1, IE.free_den h x (ifb (ifb f).2).1, IE.free_den h y (ifb (ifb f).2).2]
theorem BE.free_den (h : Base ρ ρ') : ∀ (e : BE), e.free = true → e.den ρ' = e.den ρ
  | .lit b, _ => by simp only [BE.den]
  | .var n, f => by simp only [BE.den, h.b n (by simpa [BE.free, Nat.blt_eq] using f)]
  | .le x y, f => by simp only [BE.den, IE.free_den h x (ifb f).1, IE.free_den h y (ifb f).2]
  | .eq x y, f => by simp only [BE.den, IE.free_den h x (ifb f).1, IE.free_den h y (ifb f).2]
  | .not x, f => by simp only [BE.den, BE.free_den h x f]
  | .and x y, f => by simp only [BE.den, BE.free_den h x (ifb f).1, BE.free_den h y (ifb f).2]
  | .iff x y, f => by simp only [BE.den, BE.free_den h x (ifb f).1, BE.free_den h y (ifb f).2]
  | .cel l i j, f => by simp only [BE.den, LE.free_den h l (ifb f).1, IE.free_den h i (ifb f).2]
  | .leq a b, f => by simp only [BE.den, LE.free_den h a (ifb f).1, LE.free_den h b (ifb f).2]
  | .rnil r, f => by cases f
  | .fn n a, f => by simp only [BE.den, AL.free_den h a f, h.F]
theorem LE.free_den (h : Base ρ ρ') : ∀ (e : LE), e.free = true → e.den ρ' = e.den ρ
  | .nil, _ => by simp only [LE.den]
  | .var n, f => by simp only [LE.den, h.l n (by simpa [LE.free, Nat.blt_eq] using f)]
  | .rom r, _ => by simp only [LE.den, h.rl]
  | .cat a b, f => by simp only [LE.den, LE.free_den h a (ifb f).1, LE.free_den h b (ifb f).2]
  | .one c, f => by simp only [LE.den, AL.free_den h c f]
  | .set a i c, f => by simp only [LE.den, LE.free_den h a (ifb f).1, IE.free_den h i (ifb (ifb f).2).1, AL.free_den h c (ifb (ifb f).2).2]
  | .take a i, f => by simp only [LE.den, LE.free_den h a (ifb f).1, IE.free_den h i (ifb f).2]
  | .drop a i, f => by simp only [LE.den, LE.free_den h a (ifb f).1, IE.free_den h i (ifb f).2]
  | .rep c n, f => by simp only [LE.den, AL.free_den h c (ifb f).1, IE.free_den h n (ifb f).2]
  | .str a i j, f => by simp only [LE.den, LE.free_den h a (ifb f).1, IE.free_den h i (ifb f).2]
  | .fn n a, f => by simp only [LE.den, AL.free_den h a f, h.F]
theorem AL.free_den (h : Base ρ ρ') : ∀ (e : AL), e.free = true → e.den ρ' = e.den ρ
  | .nil, _ => by simp only [AL.den]
  | .int k e r, f => by simp only [AL.den, IE.free_den h e (ifb f).1, AL.free_den h r (ifb f).2]
  | .bool b r, f => by simp only [AL.den, BE.free_den h b (ifb f).1, AL.free_den h r (ifb f).2]
  | .lst l r, f => by simp only [AL.den, LE.free_den h l (ifb f).1, AL.free_den h r (ifb f).2]
  | .cel l i j r, f => by simp only [AL.den, LE.free_den h l (ifb f).1, IE.free_den h i (ifb (ifb f).2).1, AL.free_den h r (ifb (ifb f).2).2]
end
theorem freeL_holds (h : Base ρ ρ') : ∀ l : List BE, freeL l = true → (Holds ρ' l ↔ Holds ρ l)
  | [], _ => ⟨(fun _ p hp => by cases hp), (fun _ p hp => by cases hp)⟩
  | p :: l, f => by
    have ih := freeL_holds h l (ifb f).2
    have e := BE.free_den h p (ifb f).1
    exact ⟨fun hh => (ih.1 hh.tail).cons (by rw [← e]; exact hh.head), fun hh => (ih.2 hh.tail).cons (by rw [e]; exact hh.head)⟩
end
/-- What is said to be known behind a told call is known. -/
def PostOk (F : Fns) (c : Ctr) : Prop := ∀ ρ : Rho, ρ.z.F = F → Holds ρ c.pre → Holds ρ c.post
def PostsOk (o : Orc) : Prop := ∀ c ∈ o.ctr, PostOk o.F c
/-- Letters that are fit, with these functions. -/
structure Gd (F : Fns) (ρ : Rho) : Prop where
  ok : ρ.Ok
  F : ρ.z.F = F
theorem preOk_ok {ρ : Rho} (hρ : ρ.Ok) {pc : List BE} (hp : Holds ρ pc) {S : Sub} : ∀ l : List BE, preOk pc S l = .ok → Holds (ρ.sb S) l
  | [], _ => fun p h => by cases h
  | p :: l, h => by
    simp only [preOk] at h
    split at h
    · rename_i hd
      exact (preOk_ok hρ hp l h).cons (by rw [← BE.sb_den hρ hp]; exact dec_den hρ hp _ _ hd)
    · cases h
    · cases h
theorem useC_postA {ρ : Rho} {F : Fns} (g : Gd F ρ) {pc : List BE} (hp : Holds ρ pc) {nx : Nat} {c : Ctr} (hc : PostOk F c) {S : Sub} (h5 : preOk pc S c.pre = .ok) {A : List (Nat × Nat)} : Holds ρ (sbPc pc { S with a := A } c.post) := by
  rw [sbPc_holds g.ok hp]
  have hpre := preOk_ok g.ok hp c.pre h5
  have e : ∀ l : List BE, Holds (ρ.sb { S with a := A }) l ↔ Holds (ρ.sb S) l := by
    intro l
    have : Same (ρ.sb S) (ρ.sb { S with a := A }) := ⟨rfl, rfl, rfl, rfl, rfl⟩
    exact this.holds
  exact hc _ g.F ((e _).2 hpre)
theorem useC_post {ρ : Rho} {F : Fns} (g : Gd F ρ) {roms : Roms} {pc : List BE} (hp : Holds ρ pc) {h : SHeap} {nx : Nat} {c : Ctr} (hc : PostOk F c) {args : List SV} {u : Used} (hu : useC roms pc h nx c args = .use u) : Holds ρ u.post := by
  unfold useC at hu
  generalize match1 roms pc h c.roms c.pat args ⟨Sub.nil, []⟩ = M at hu
  simp only [] at hu
  split at hu
  · split at hu
    · split at hu
      · split at hu
        · split at hu
          · split at hu
            · rename_i h1 h2 h3 h4 h6 h5
              cases hu
              exact useC_postA (nx := nx) g hp hc h5
            · cases hu
            · cases hu
          · cases hu
        · cases hu
      · cases hu
    · cases hu
  · cases hu
theorem findC_use {roms : Roms} {pc : List BE} {h : SHeap} {nx f : Nat} {args : List SV} : ∀ {l : List Ctr} {u : Used}, findC roms pc h nx f args l = .use u → ∃ c ∈ l, c.f = f ∧ useC roms pc h nx c args = .use u
  | [], u, hu => by cases hu
  | c :: l, u, hu => by
    simp only [findC] at hu
    split at hu
    · rename_i hf
      split at hu
      · obtain ⟨d, hd, h1, h2⟩ := findC_use hu
        exact ⟨d, List.mem_cons_of_mem _ hd, h1, h2⟩
      · exact ⟨c, List.mem_cons_self .., by simpa using hf, hu⟩
    · obtain ⟨d, hd, h1, h2⟩ := findC_use hu
      exact ⟨d, List.mem_cons_of_mem _ hd, h1, h2⟩
end Go.Proofs.Ytjgkaimgocnkmab.Sx
