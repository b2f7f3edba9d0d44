/- Layer octet: signed numbers, told. No condition. -/
import Derived.Test.YthenenacmiiphaaQi
import Derived.Test.YthenenacmiiphaaQe
set_option linter.unusedVariables false
set_option linter.unusedSimpArgs false
set_option linter.deprecated false
namespace Go.Proofs.Ythenenacmiiphaa.oct
open Go Go.Proofs.Ythenenacmiiphaa.Sx
noncomputable section
abbrev TTsigned : Tab := T oct.Φ cSigned.roms [cNumber]
abbrev tsigned0 : LE := LE.fn 1 (AL.int .u64 (IE.bin BinOp.xor .u64 (IE.bin BinOp.shl .u64 (IE.wrap .u64 (IE.var .i64 1)) (IE.lit 1)) (IE.wrap .u64 (IE.bin BinOp.shr .i64 (IE.var .i64 1) (IE.lit 63)))) AL.nil)
abbrev tsigned1 : LE := LE.fn 1 (AL.int .u64 (IE.fn .u64 2 (AL.int .i64 (IE.var .i64 1) AL.nil)) AL.nil)
def wsigned_0 : VW := (VW.done [(BE.le (IE.lit 1) (IE.len tsigned0)), (BE.le (IE.len tsigned0) (IE.lit 10)), (BE.lit true)] (some [(G.i (IE.len tsigned1) (IE.len tsigned0)), (G.i (IE.len tsigned1) (IE.len tsigned0)), (G.l tsigned1 tsigned0), (G.i (IE.len tsigned1) (IE.len tsigned0))]))
def vwsigned : List VW := [wsigned_0]
end
theorem vcsigned_0 : VD TTsigned (st0 cSigned) wsigned_0 := by
 intro ρ kn hp
 have hF : ρ.z.F = oct.Φ := kn.F
 simp only [h_nil, h_cons, d_le, d_eq, d_not, d_var, d_lit, d_cel, d_leq, d_fn, d_and, d_iff, IE.den, LE.den, AL.den, lenV, true_and, and_true, hF, pi2, pi3, pi4, pi5, pi6, pi7] at hp
 obtain ⟨p1, p2⟩ := hp
 refine all_cons (show (((ρ.z.F.l 1 [.int .u64 (clampK .u64 (ρ.z.F.i 2 [.int .i64 (ρ.i .i64 1)]))]).length : Nat) : Int) = (((ρ.z.F.l 1 [.int .u64 (binI BinOp.xor .u64 (binI BinOp.shl .u64 (IntKind.wrap .u64 (ρ.i .i64 1)) (1 : Int)) (IntKind.wrap .u64 (binI BinOp.shr .i64 (ρ.i .i64 1) (63 : Int))))]).length : Nat) : Int) from ?_) (all_cons (show (((ρ.z.F.l 1 [.int .u64 (clampK .u64 (ρ.z.F.i 2 [.int .i64 (ρ.i .i64 1)]))]).length : Nat) : Int) = (((ρ.z.F.l 1 [.int .u64 (binI BinOp.xor .u64 (binI BinOp.shl .u64 (IntKind.wrap .u64 (ρ.i .i64 1)) (1 : Int)) (IntKind.wrap .u64 (binI BinOp.shr .i64 (ρ.i .i64 1) (63 : Int))))]).length : Nat) : Int) from ?_) (all_cons (show (ρ.z.F.l 1 [.int .u64 (clampK .u64 (ρ.z.F.i 2 [.int .i64 (ρ.i .i64 1)]))]) = (ρ.z.F.l 1 [.int .u64 (binI BinOp.xor .u64 (binI BinOp.shl .u64 (IntKind.wrap .u64 (ρ.i .i64 1)) (1 : Int)) (IntKind.wrap .u64 (binI BinOp.shr .i64 (ρ.i .i64 1) (63 : Int))))]) from ?_) (all_cons (show (((ρ.z.F.l 1 [.int .u64 (clampK .u64 (ρ.z.F.i 2 [.int .i64 (ρ.i .i64 1)]))]).length : Nat) : Int) = (((ρ.z.F.l 1 [.int .u64 (binI BinOp.xor .u64 (binI BinOp.shl .u64 (IntKind.wrap .u64 (ρ.i .i64 1)) (1 : Int)) (IntKind.wrap .u64 (binI BinOp.shr .i64 (ρ.i .i64 1) (63 : Int))))]).length : Nat) : Int) from ?_) (all_nil))))
 all_goals try simp only [hF, pi2, pi3, pi4, pi5, pi6, pi7]
 all_goals
  have hr := i64_rng kn.ok 1
  rw [xor_twice hr.1 hr.2]
  try rw [show clampK .u64 (twiceN (ρ.i .i64 1)) = twiceN (ρ.i .i64 1) from u64_in (by unfold twiceN; split <;> omega)]
theorem told_signed : Sx.Told oct.Φ cSigned := told_vw (cs := [cNumber]) (all_cons told_number (all_nil)) 900 vwsigned (by kernel_rfl) (by kernel_rfl) (by kernel_rfl) post_signed (by kernel_rfl) (by kernel_rfl) (all_cons vcsigned_0 (all_nil))
end Go.Proofs.Ythenenacmiiphaa.oct
