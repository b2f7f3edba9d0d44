/- Layer journal: seal's table, where a reader stands: words. No condition. -/
import Derived.Test.YtllojpnpfhaniaaGreatQo
set_option linter.unusedVariables false
set_option linter.unusedSimpArgs false
set_option linter.deprecated false
namespace Go.Proofs.YtllojpnpfhaniaaGreat.oct
open Go Go.Proofs.YtllojpnpfhaniaaGreat.Sx
noncomputable section
def tabE : LE := .fn 2 (.int .i64 (.lit 256) .nil)
def zerE : LE := .rep (.int .u32 (.lit 0) .nil) (.lit 256)
def rdr (c : LE) (at_ : SV) : SObj := .mix [.opq 1] c 256 .u32 [at_] 99
def atV : SV := .int .i64 (.var .i64 1)
def mFill : Mtr := ⟨96, [.ptr 1000000 1], [(1000000, rdr zerE atV)], 1001000, [], [], .tup [], [(1000000, rdr tabE atV)], 1001000, []⟩
def nilS : SV := .const (.slice none 0 0)
def rowT (c : LE) : SObj := .rowl c (.lit 256) [.int .u32] 97 1000001 1
def mFill2 : Mtr := ⟨96, [.ptr 1000000 0], [(1000000, rowT zerE)], 1001000, [], [], .tup [], [(1000000, rowT tabE)], 1001000, []⟩
def sealN : LE := .fn 3 (.lst .nil .nil)
def cSealNil : Ctr := ⟨58, [nilS], [], [], .tup [.sll 0 1 1 (.lit 0) (.len sealN) none, .int .i64 (.lit 0)], [(0, .rowl sealN (.len sealN) kB 5 1 1)], 2, [.eq (.len sealN) (.lit 5), .eq (.cel .u8 sealN (.lit 0) 0) (.lit 0)]⟩
end
theorem typed_nil : Typed byteK ([] : LV) := Typed.nil _
theorem seal_nil : (sealL []).length = 5 ∧ celV (sealL []) 0 0 = .int .u8 0 := ⟨rfl, rfl⟩
theorem post_sealnil : PostOk Φ cSealNil := fun ρ hF _ => by
 obtain ⟨h1, h2⟩ := seal_nil
 show Holds ρ [_, _]
 simp only [h_nil, h_cons, d_eq, IE.den, LE.den, AL.den, sealN, lenV, hF, pl3t typed_nil, h1, h2, and_true]
 exact ⟨rfl, rfl⟩
theorem seal_nil_len : ((sealL []).length : Int) = ((numL (clampK .u64 0)).length : Int) + 4 := by have := seal_len []; simpa using this
theorem seal_nil_is : sealL [] = (numL (clampK .u64 0) ++ []) ++ fourL (4294967295 - (crcT (numL (clampK .u64 0)) (numL (clampK .u64 0)).length : Nat)) := by
 unfold sealL sumI headL; simp
end Go.Proofs.YtllojpnpfhaniaaGreat.oct
