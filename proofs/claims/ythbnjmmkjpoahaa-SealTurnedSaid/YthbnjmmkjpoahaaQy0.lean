/- Layer seal: the chapter's rows, words. No condition. -/
import Derived.Test.YthbnjmmkjpoahaaQv
set_option linter.unusedVariables false
set_option linter.unusedSimpArgs false
set_option linter.deprecated false
namespace Go.Proofs.Ythbnjmmkjpoahaa.oct
open Go Go.Proofs.Ythbnjmmkjpoahaa.Sx
noncomputable section
def rowT (c : LE) : SObj := .rowl c (.lit 256) [.int .u32] 55 1000001 1
def mFill2 : Mtr := ⟨23, [.ptr 1000000 0], [(1000000, rowT zerE)], 1001000, [], [], .tup [], [(1000000, rowT tabE)], 1001000, []⟩
def sealN : LE := .fn 3 (.lst .nil .nil)
def cSealNil : Ctr := ⟨14, [nilS], [], [], .tup [.sll 0 1 1 (.lit 0) (.len sealN) none, .int .i64 (.lit 0)], [(0, .rowl sealN (.len sealN) kB 5 1 1)], 2, [.eq (.len sealN) (.lit 5), .eq (.cel .u8 sealN (.lit 0) 0) (.lit 0)]⟩
end
theorem typed_nil : Typed byteK ([] : LV) := Typed.nil _
theorem seal_nil : (sealL []).length = 5 ∧ celV (sealL []) 0 0 = .int .u8 0 := ⟨rfl, rfl⟩
theorem post_sealnil : PostOk Φ cSealNil := fun ρ hF _ => by
  obtain ⟨h1, h2⟩ := seal_nil
  show Holds ρ [_, _]
  simp only [h_nil, h_cons, d_eq, IE.den, LE.den, AL.den, sealN, lenV, hF, pl3t typed_nil, h1, h2, and_true]
  exact ⟨rfl, rfl⟩
theorem opE_5 : opE [[.int .u8 0], [.int .u8 0], [.int .u8 0], [.int .u8 0], [.int .u8 0]] = 120 := by
  have h1 : rdE [[Value.int .u8 0], [.int .u8 0], [.int .u8 0], [.int .u8 0], [.int .u8 0]] = 0 := by rfl
  have h2 : rdV [[Value.int .u8 0], [.int .u8 0], [.int .u8 0], [.int .u8 0], [.int .u8 0]] = 0 := by rfl
  have h3 : rdN [[Value.int .u8 0], [.int .u8 0], [.int .u8 0], [.int .u8 0], [.int .u8 0]] = 1 := by rfl
  refine opE_d h1 (by omega) (by rw [h2, h3]; decide) ?_
  unfold endN
  rw [h2, h3]
  have h4 : sumI (List.take (1 + 0 : Int).toNat [[Value.int .u8 0], [.int .u8 0], [.int .u8 0], [.int .u8 0], [.int .u8 0]]) = 3523407757 := by
    unfold sumI
    rfl
  rw [h4]
  intro h
  have := congrArg (fun l => celV l 0 0) h
  revert this
  show Value.int .u8 0 = Value.int .u8 _ → False
  intro h
  injection h with h5 h6
  revert h6
  decide
def b9L : LV := [[.int .u8 49], [.int .u8 50], [.int .u8 51], [.int .u8 52], [.int .u8 53], [.int .u8 54], [.int .u8 55], [.int .u8 56], [.int .u8 57]]
theorem seal_nil_len : ((sealL []).length : Int) = ((numL (clampK .u64 0)).length : Int) + 4 := by have := seal_len []; simpa using this
theorem seal_nil_is : sealL [] = (numL (clampK .u64 0) ++ []) ++ fourL (4294967295 - (crcT (numL (clampK .u64 0)) (numL (clampK .u64 0)).length : Nat)) := by
  unfold sealL sumI headL; simp
theorem crc_123 : crcT b9L 9 = 873187033 := by decide +kernel
end Go.Proofs.Ythbnjmmkjpoahaa.oct
