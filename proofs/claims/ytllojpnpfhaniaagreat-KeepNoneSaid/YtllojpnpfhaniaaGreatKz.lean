/- Layer keep: the law KeepNone. No condition. -/
import Derived.Test.YtllojpnpfhaniaaGreatKx
set_option linter.unusedVariables false
set_option linter.unusedSimpArgs false
set_option linter.deprecated false
namespace Go.Proofs.YtllojpnpfhaniaaGreat.oct
open Go Go.Proofs.YtllojpnpfhaniaaGreat.Sx
noncomputable section
abbrev TTnone : Tab := TM oct.Φ cKNone.roms [cWorksK, cSealN] [mFill]
def pcnone_0 : List BE := [(BE.lit true), (BE.le (IE.lit 1) (IE.len (LE.rom 0)))]
def pcnone_1 : List BE := ((BE.le (IE.lit 1) (IE.var .i64 1)) :: pcnone_0)
def pcnone_2 : List BE := ((BE.le (IE.var .i64 1) (IE.lit 100)) :: pcnone_1)
def pcnone_3 : List BE := ((BE.le (IE.len (LE.rom 0)) (IE.lit 50)) :: pcnone_2)
def pcnone_4 : List BE := ((BE.le (IE.lit 5) (IE.sub (IE.var .i64 1) (IE.lit 0))) :: pcnone_3)
def wnone_0 : VW := (VW.done ((BE.leq (LE.cat (LE.one (AL.int .u8 (IE.wrap .u8 (IE.bin BinOp.shr .u32 (IE.bin BinOp.xor .u32 (IE.lit 4294967295) (IE.bin BinOp.xor .u32 (IE.lit 16777215) (IE.cel .u32 (LE.fn 2 (AL.int .i64 (IE.lit 256) AL.nil)) (IE.lit 255) 0))) (IE.lit 24))) AL.nil)) (LE.cat (LE.one (AL.int .u8 (IE.wrap .u8 (IE.bin BinOp.shr .u32 (IE.bin BinOp.xor .u32 (IE.lit 4294967295) (IE.bin BinOp.xor .u32 (IE.lit 16777215) (IE.cel .u32 (LE.fn 2 (AL.int .i64 (IE.lit 256) AL.nil)) (IE.lit 255) 0))) (IE.lit 16))) AL.nil)) (LE.cat (LE.one (AL.int .u8 (IE.wrap .u8 (IE.bin BinOp.shr .u32 (IE.bin BinOp.xor .u32 (IE.lit 4294967295) (IE.bin BinOp.xor .u32 (IE.lit 16777215) (IE.cel .u32 (LE.fn 2 (AL.int .i64 (IE.lit 256) AL.nil)) (IE.lit 255) 0))) (IE.lit 8))) AL.nil)) (LE.one (AL.int .u8 (IE.wrap .u8 (IE.bin BinOp.xor .u32 (IE.lit 4294967295) (IE.bin BinOp.xor .u32 (IE.lit 16777215) (IE.cel .u32 (LE.fn 2 (AL.int .i64 (IE.lit 256) AL.nil)) (IE.lit 255) 0)))) AL.nil))))) (LE.cat (LE.one (AL.int .u8 (IE.lit 210) AL.nil)) (LE.cat (LE.one (AL.int .u8 (IE.lit 2) AL.nil)) (LE.cat (LE.one (AL.int .u8 (IE.lit 239) AL.nil)) (LE.one (AL.int .u8 (IE.lit 141) AL.nil)))))) :: pcnone_4) (some []))
def wnone_1 : VW := (VW.done ((BE.not (BE.leq (LE.cat (LE.one (AL.int .u8 (IE.wrap .u8 (IE.bin BinOp.shr .u32 (IE.bin BinOp.xor .u32 (IE.lit 4294967295) (IE.bin BinOp.xor .u32 (IE.lit 16777215) (IE.cel .u32 (LE.fn 2 (AL.int .i64 (IE.lit 256) AL.nil)) (IE.lit 255) 0))) (IE.lit 24))) AL.nil)) (LE.cat (LE.one (AL.int .u8 (IE.wrap .u8 (IE.bin BinOp.shr .u32 (IE.bin BinOp.xor .u32 (IE.lit 4294967295) (IE.bin BinOp.xor .u32 (IE.lit 16777215) (IE.cel .u32 (LE.fn 2 (AL.int .i64 (IE.lit 256) AL.nil)) (IE.lit 255) 0))) (IE.lit 16))) AL.nil)) (LE.cat (LE.one (AL.int .u8 (IE.wrap .u8 (IE.bin BinOp.shr .u32 (IE.bin BinOp.xor .u32 (IE.lit 4294967295) (IE.bin BinOp.xor .u32 (IE.lit 16777215) (IE.cel .u32 (LE.fn 2 (AL.int .i64 (IE.lit 256) AL.nil)) (IE.lit 255) 0))) (IE.lit 8))) AL.nil)) (LE.one (AL.int .u8 (IE.wrap .u8 (IE.bin BinOp.xor .u32 (IE.lit 4294967295) (IE.bin BinOp.xor .u32 (IE.lit 16777215) (IE.cel .u32 (LE.fn 2 (AL.int .i64 (IE.lit 256) AL.nil)) (IE.lit 255) 0)))) AL.nil))))) (LE.cat (LE.one (AL.int .u8 (IE.lit 210) AL.nil)) (LE.cat (LE.one (AL.int .u8 (IE.lit 2) AL.nil)) (LE.cat (LE.one (AL.int .u8 (IE.lit 239) AL.nil)) (LE.one (AL.int .u8 (IE.lit 141) AL.nil))))))) :: pcnone_4) (some []))
def wnone_2 : VW := (VW.done ((BE.not (BE.le (IE.lit 5) (IE.sub (IE.var .i64 1) (IE.lit 0)))) :: pcnone_3) (some []))
def wnone_3 : VW := (VW.done ((BE.not (BE.le (IE.len (LE.rom 0)) (IE.lit 50))) :: pcnone_2) (some []))
def wnone_4 : VW := (VW.done ((BE.not (BE.le (IE.var .i64 1) (IE.lit 100))) :: pcnone_1) (some []))
def wnone_5 : VW := (VW.done ((BE.not (BE.le (IE.lit 1) (IE.var .i64 1))) :: pcnone_0) (some []))
def vwnone : List VW := [wnone_0, wnone_1, wnone_2, wnone_3, wnone_4, wnone_5]
end
theorem vcnone_0 : VD TTnone (st0 cKNone) wnone_0 := by
  intro ρ kn hp
  exact all_nil
theorem vcnone_1 : VD TTnone (st0 cKNone) wnone_1 := by
  intro ρ kn hp
  exact all_nil
theorem vcnone_2 : VD TTnone (st0 cKNone) wnone_2 := by
  intro ρ kn hp
  exact all_nil
theorem vcnone_3 : VD TTnone (st0 cKNone) wnone_3 := by
  intro ρ kn hp
  exact all_nil
theorem vcnone_4 : VD TTnone (st0 cKNone) wnone_4 := by
  intro ρ kn hp
  exact all_nil
theorem vcnone_5 : VD TTnone (st0 cKNone) wnone_5 := by
  intro ρ kn hp
  exact all_nil
theorem told_none : Sx.Told oct.Φ cKNone := told_vwM (cs := [cWorksK, cSealN]) (ms' := [mFill]) (all_cons told_works (all_cons told_sealN (all_nil))) (all_cons told_mfill (all_nil)) 60000 vwnone (by kernel_rfl) (by kernel_rfl) (by kernel_rfl) (post_nil rfl) (by kernel_rfl) (by kernel_rfl) (all_cons vcnone_0 (all_cons vcnone_1 (all_cons vcnone_2 (all_cons vcnone_3 (all_cons vcnone_4 (all_cons vcnone_5 (all_nil)))))))
noncomputable section
abbrev TTnonez : Tab := TM oct.Φ cKNone0.roms [cWorksK, cSealN] [mFill]
def pcnonez_0 : List BE := [(BE.lit true)]
def pcnonez_1 : List BE := ((BE.le (IE.lit 1) (IE.var .i64 1)) :: pcnonez_0)
def pcnonez_2 : List BE := ((BE.le (IE.var .i64 1) (IE.lit 100)) :: pcnonez_1)
def pcnonez_3 : List BE := ((BE.le (IE.lit 5) (IE.sub (IE.var .i64 1) (IE.lit 0))) :: pcnonez_2)
def wnonez_0 : VW := (VW.done ((BE.leq (LE.cat (LE.one (AL.int .u8 (IE.wrap .u8 (IE.bin BinOp.shr .u32 (IE.bin BinOp.xor .u32 (IE.lit 4294967295) (IE.bin BinOp.xor .u32 (IE.lit 16777215) (IE.cel .u32 (LE.fn 2 (AL.int .i64 (IE.lit 256) AL.nil)) (IE.lit 255) 0))) (IE.lit 24))) AL.nil)) (LE.cat (LE.one (AL.int .u8 (IE.wrap .u8 (IE.bin BinOp.shr .u32 (IE.bin BinOp.xor .u32 (IE.lit 4294967295) (IE.bin BinOp.xor .u32 (IE.lit 16777215) (IE.cel .u32 (LE.fn 2 (AL.int .i64 (IE.lit 256) AL.nil)) (IE.lit 255) 0))) (IE.lit 16))) AL.nil)) (LE.cat (LE.one (AL.int .u8 (IE.wrap .u8 (IE.bin BinOp.shr .u32 (IE.bin BinOp.xor .u32 (IE.lit 4294967295) (IE.bin BinOp.xor .u32 (IE.lit 16777215) (IE.cel .u32 (LE.fn 2 (AL.int .i64 (IE.lit 256) AL.nil)) (IE.lit 255) 0))) (IE.lit 8))) AL.nil)) (LE.one (AL.int .u8 (IE.wrap .u8 (IE.bin BinOp.xor .u32 (IE.lit 4294967295) (IE.bin BinOp.xor .u32 (IE.lit 16777215) (IE.cel .u32 (LE.fn 2 (AL.int .i64 (IE.lit 256) AL.nil)) (IE.lit 255) 0)))) AL.nil))))) (LE.cat (LE.one (AL.int .u8 (IE.lit 210) AL.nil)) (LE.cat (LE.one (AL.int .u8 (IE.lit 2) AL.nil)) (LE.cat (LE.one (AL.int .u8 (IE.lit 239) AL.nil)) (LE.one (AL.int .u8 (IE.lit 141) AL.nil)))))) :: pcnonez_3) (some []))
def wnonez_1 : VW := (VW.done ((BE.not (BE.leq (LE.cat (LE.one (AL.int .u8 (IE.wrap .u8 (IE.bin BinOp.shr .u32 (IE.bin BinOp.xor .u32 (IE.lit 4294967295) (IE.bin BinOp.xor .u32 (IE.lit 16777215) (IE.cel .u32 (LE.fn 2 (AL.int .i64 (IE.lit 256) AL.nil)) (IE.lit 255) 0))) (IE.lit 24))) AL.nil)) (LE.cat (LE.one (AL.int .u8 (IE.wrap .u8 (IE.bin BinOp.shr .u32 (IE.bin BinOp.xor .u32 (IE.lit 4294967295) (IE.bin BinOp.xor .u32 (IE.lit 16777215) (IE.cel .u32 (LE.fn 2 (AL.int .i64 (IE.lit 256) AL.nil)) (IE.lit 255) 0))) (IE.lit 16))) AL.nil)) (LE.cat (LE.one (AL.int .u8 (IE.wrap .u8 (IE.bin BinOp.shr .u32 (IE.bin BinOp.xor .u32 (IE.lit 4294967295) (IE.bin BinOp.xor .u32 (IE.lit 16777215) (IE.cel .u32 (LE.fn 2 (AL.int .i64 (IE.lit 256) AL.nil)) (IE.lit 255) 0))) (IE.lit 8))) AL.nil)) (LE.one (AL.int .u8 (IE.wrap .u8 (IE.bin BinOp.xor .u32 (IE.lit 4294967295) (IE.bin BinOp.xor .u32 (IE.lit 16777215) (IE.cel .u32 (LE.fn 2 (AL.int .i64 (IE.lit 256) AL.nil)) (IE.lit 255) 0)))) AL.nil))))) (LE.cat (LE.one (AL.int .u8 (IE.lit 210) AL.nil)) (LE.cat (LE.one (AL.int .u8 (IE.lit 2) AL.nil)) (LE.cat (LE.one (AL.int .u8 (IE.lit 239) AL.nil)) (LE.one (AL.int .u8 (IE.lit 141) AL.nil))))))) :: pcnonez_3) (some []))
def wnonez_2 : VW := (VW.done ((BE.not (BE.le (IE.lit 5) (IE.sub (IE.var .i64 1) (IE.lit 0)))) :: pcnonez_2) (some []))
def wnonez_3 : VW := (VW.done ((BE.not (BE.le (IE.var .i64 1) (IE.lit 100))) :: pcnonez_1) (some []))
def wnonez_4 : VW := (VW.done ((BE.not (BE.le (IE.lit 1) (IE.var .i64 1))) :: pcnonez_0) (some []))
def vwnonez : List VW := [wnonez_0, wnonez_1, wnonez_2, wnonez_3, wnonez_4]
end
theorem vcnonez_0 : VD TTnonez (st0 cKNone0) wnonez_0 := by
  intro ρ kn hp
  exact all_nil
theorem vcnonez_1 : VD TTnonez (st0 cKNone0) wnonez_1 := by
  intro ρ kn hp
  exact all_nil
theorem vcnonez_2 : VD TTnonez (st0 cKNone0) wnonez_2 := by
  intro ρ kn hp
  exact all_nil
theorem vcnonez_3 : VD TTnonez (st0 cKNone0) wnonez_3 := by
  intro ρ kn hp
  exact all_nil
theorem vcnonez_4 : VD TTnonez (st0 cKNone0) wnonez_4 := by
  intro ρ kn hp
  exact all_nil
theorem told_nonez : Sx.Told oct.Φ cKNone0 := told_vwM (cs := [cWorksK, cSealN]) (ms' := [mFill]) (all_cons told_works (all_cons told_sealN (all_nil))) (all_cons told_mfill (all_nil)) 60000 vwnonez (by kernel_rfl) (by kernel_rfl) (by kernel_rfl) (post_nil rfl) (by kernel_rfl) (by kernel_rfl) (all_cons vcnonez_0 (all_cons vcnonez_1 (all_cons vcnonez_2 (all_cons vcnonez_3 (all_cons vcnonez_4 (all_nil))))))
end Go.Proofs.YtllojpnpfhaniaaGreat.oct
