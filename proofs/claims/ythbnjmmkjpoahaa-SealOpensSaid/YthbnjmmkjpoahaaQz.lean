/- Layer seal: what bytes open to. No condition. -/
import Derived.Test.YthbnjmmkjpoahaaQz0
set_option linter.unusedVariables false
set_option linter.unusedSimpArgs false
set_option linter.deprecated false
namespace Go.Proofs.Ythbnjmmkjpoahaa.oct
open Go Go.Proofs.Ythbnjmmkjpoahaa.Sx
noncomputable section
abbrev TTopens : Tab := T oct.Φ cOpens.roms [cWorks, cRRead, cRSum, cOpenNo, cOpenZ, cOpenY]
def pcopens_0 : List BE := [(BE.lit true), (BE.le (IE.lit 1) (IE.len (LE.rom 0)))]
def pcopens_1 : List BE := ((BE.le (IE.len (LE.rom 0)) (IE.lit 2000)) :: pcopens_0)
def pcopens_2 : List BE := ((BE.eq (IE.fn .i64 21 (AL.lst (LE.rom 0) AL.nil)) (IE.lit 0)) :: pcopens_1)
def pcopens_3 : List BE := ((BE.le (IE.lit 0) (IE.fn .i64 4 (AL.lst (LE.rom 0) AL.nil))) :: (BE.le (IE.fn .i64 4 (AL.lst (LE.rom 0) AL.nil)) (IE.len (LE.rom 0))) :: (BE.le (IE.fn .i64 4 (AL.lst (LE.rom 0) AL.nil)) (IE.lit 10)) :: (BE.not (BE.eq (IE.fn .i64 21 (AL.lst (LE.rom 0) AL.nil)) (IE.lit 0))) :: pcopens_1)
def pcopens_4 : List BE := ((BE.eq (IE.fn .i64 5 (AL.lst (LE.rom 0) AL.nil)) (IE.lit 0)) :: pcopens_3)
def pcopens_5 : List BE := ((BE.not (BE.eq (IE.fn .i64 5 (AL.lst (LE.rom 0) AL.nil)) (IE.lit 0))) :: pcopens_3)
def pcopens_6 : List BE := ((BE.le (IE.fn .u64 3 (AL.lst (LE.rom 0) AL.nil)) (IE.lit 65536)) :: pcopens_4)
def pcopens_7 : List BE := ((BE.not (BE.le (IE.fn .u64 3 (AL.lst (LE.rom 0) AL.nil)) (IE.lit 65536))) :: pcopens_4)
def pcopens_8 : List BE := ((BE.le (IE.lit 0) (IE.fn .i64 4 (AL.lst (LE.rom 0) AL.nil))) :: (BE.le (IE.fn .i64 4 (AL.lst (LE.rom 0) AL.nil)) (IE.len (LE.rom 0))) :: (BE.le (IE.fn .i64 4 (AL.lst (LE.rom 0) AL.nil)) (IE.lit 10)) :: (BE.le (IE.lit 5) (IE.fn .i64 22 (AL.lst (LE.rom 0) AL.nil))) :: (BE.le (IE.fn .i64 22 (AL.lst (LE.rom 0) AL.nil)) (IE.len (LE.rom 0))) :: (BE.eq (IE.len (LE.fn 5 (AL.lst (LE.rom 0) AL.nil))) (IE.lit 0)) :: pcopens_2)
def pcopens_9 : List BE := ((BE.le (IE.lit 0) (IE.fn .i64 4 (AL.lst (LE.rom 0) AL.nil))) :: (BE.le (IE.fn .i64 4 (AL.lst (LE.rom 0) AL.nil)) (IE.len (LE.rom 0))) :: (BE.le (IE.fn .i64 4 (AL.lst (LE.rom 0) AL.nil)) (IE.lit 10)) :: (BE.le (IE.lit 5) (IE.fn .i64 22 (AL.lst (LE.rom 0) AL.nil))) :: (BE.le (IE.fn .i64 22 (AL.lst (LE.rom 0) AL.nil)) (IE.len (LE.rom 0))) :: (BE.not (BE.eq (IE.len (LE.fn 5 (AL.lst (LE.rom 0) AL.nil))) (IE.lit 0))) :: pcopens_2)
def pcopens_10 : List BE := ((BE.le (IE.add (IE.add (IE.fn .i64 4 (AL.lst (LE.rom 0) AL.nil)) (IE.fn .u64 3 (AL.lst (LE.rom 0) AL.nil))) (IE.lit 4)) (IE.len (LE.rom 0))) :: pcopens_6)
def pcopens_11 : List BE := ((BE.not (BE.le (IE.add (IE.add (IE.fn .i64 4 (AL.lst (LE.rom 0) AL.nil)) (IE.fn .u64 3 (AL.lst (LE.rom 0) AL.nil))) (IE.lit 4)) (IE.len (LE.rom 0)))) :: pcopens_6)
def pcopens_12 : List BE := ((BE.eq (IE.fn .i64 5 (AL.lst (LE.rom 0) AL.nil)) (IE.lit 0)) :: pcopens_8)
def pcopens_13 : List BE := ((BE.eq (IE.fn .i64 5 (AL.lst (LE.rom 0) AL.nil)) (IE.lit 0)) :: pcopens_9)
def pcopens_14 : List BE := ((BE.leq (LE.cat (LE.one (AL.int .u8 (IE.wrap .u8 (IE.bin BinOp.quo .u32 (IE.fn .u32 20 (AL.lst (LE.take (LE.rom 0) (IE.add (IE.fn .i64 4 (AL.lst (LE.rom 0) AL.nil)) (IE.fn .u64 3 (AL.lst (LE.rom 0) AL.nil)))) AL.nil)) (IE.lit 16777216))) AL.nil)) (LE.cat (LE.one (AL.int .u8 (IE.wrap .u8 (IE.bin BinOp.quo .u32 (IE.fn .u32 20 (AL.lst (LE.take (LE.rom 0) (IE.add (IE.fn .i64 4 (AL.lst (LE.rom 0) AL.nil)) (IE.fn .u64 3 (AL.lst (LE.rom 0) AL.nil)))) AL.nil)) (IE.lit 65536))) AL.nil)) (LE.cat (LE.one (AL.int .u8 (IE.wrap .u8 (IE.bin BinOp.quo .u32 (IE.fn .u32 20 (AL.lst (LE.take (LE.rom 0) (IE.add (IE.fn .i64 4 (AL.lst (LE.rom 0) AL.nil)) (IE.fn .u64 3 (AL.lst (LE.rom 0) AL.nil)))) AL.nil)) (IE.lit 256))) AL.nil)) (LE.one (AL.int .u8 (IE.wrap .u8 (IE.fn .u32 20 (AL.lst (LE.take (LE.rom 0) (IE.add (IE.fn .i64 4 (AL.lst (LE.rom 0) AL.nil)) (IE.fn .u64 3 (AL.lst (LE.rom 0) AL.nil)))) AL.nil))) AL.nil))))) (LE.take (LE.drop (LE.rom 0) (IE.add (IE.fn .i64 4 (AL.lst (LE.rom 0) AL.nil)) (IE.fn .u64 3 (AL.lst (LE.rom 0) AL.nil)))) (IE.lit 4))) :: pcopens_10)
def pcopens_15 : List BE := ((BE.not (BE.leq (LE.cat (LE.one (AL.int .u8 (IE.wrap .u8 (IE.bin BinOp.quo .u32 (IE.fn .u32 20 (AL.lst (LE.take (LE.rom 0) (IE.add (IE.fn .i64 4 (AL.lst (LE.rom 0) AL.nil)) (IE.fn .u64 3 (AL.lst (LE.rom 0) AL.nil)))) AL.nil)) (IE.lit 16777216))) AL.nil)) (LE.cat (LE.one (AL.int .u8 (IE.wrap .u8 (IE.bin BinOp.quo .u32 (IE.fn .u32 20 (AL.lst (LE.take (LE.rom 0) (IE.add (IE.fn .i64 4 (AL.lst (LE.rom 0) AL.nil)) (IE.fn .u64 3 (AL.lst (LE.rom 0) AL.nil)))) AL.nil)) (IE.lit 65536))) AL.nil)) (LE.cat (LE.one (AL.int .u8 (IE.wrap .u8 (IE.bin BinOp.quo .u32 (IE.fn .u32 20 (AL.lst (LE.take (LE.rom 0) (IE.add (IE.fn .i64 4 (AL.lst (LE.rom 0) AL.nil)) (IE.fn .u64 3 (AL.lst (LE.rom 0) AL.nil)))) AL.nil)) (IE.lit 256))) AL.nil)) (LE.one (AL.int .u8 (IE.wrap .u8 (IE.fn .u32 20 (AL.lst (LE.take (LE.rom 0) (IE.add (IE.fn .i64 4 (AL.lst (LE.rom 0) AL.nil)) (IE.fn .u64 3 (AL.lst (LE.rom 0) AL.nil)))) AL.nil))) AL.nil))))) (LE.take (LE.drop (LE.rom 0) (IE.add (IE.fn .i64 4 (AL.lst (LE.rom 0) AL.nil)) (IE.fn .u64 3 (AL.lst (LE.rom 0) AL.nil)))) (IE.lit 4)))) :: pcopens_10)
def pcopens_16 : List BE := ((BE.le (IE.fn .u64 3 (AL.lst (LE.rom 0) AL.nil)) (IE.lit 65536)) :: pcopens_12)
def pcopens_17 : List BE := ((BE.le (IE.fn .u64 3 (AL.lst (LE.rom 0) AL.nil)) (IE.lit 65536)) :: pcopens_13)
def pcopens_18 : List BE := ((BE.le (IE.add (IE.add (IE.fn .i64 4 (AL.lst (LE.rom 0) AL.nil)) (IE.fn .u64 3 (AL.lst (LE.rom 0) AL.nil))) (IE.lit 4)) (IE.len (LE.rom 0))) :: pcopens_16)
def pcopens_19 : List BE := ((BE.le (IE.add (IE.add (IE.fn .i64 4 (AL.lst (LE.rom 0) AL.nil)) (IE.fn .u64 3 (AL.lst (LE.rom 0) AL.nil))) (IE.lit 4)) (IE.len (LE.rom 0))) :: pcopens_17)
def pcopens_20 : List BE := ((BE.leq (LE.cat (LE.one (AL.int .u8 (IE.wrap .u8 (IE.bin BinOp.quo .u32 (IE.fn .u32 20 (AL.lst (LE.take (LE.rom 0) (IE.add (IE.fn .i64 4 (AL.lst (LE.rom 0) AL.nil)) (IE.fn .u64 3 (AL.lst (LE.rom 0) AL.nil)))) AL.nil)) (IE.lit 16777216))) AL.nil)) (LE.cat (LE.one (AL.int .u8 (IE.wrap .u8 (IE.bin BinOp.quo .u32 (IE.fn .u32 20 (AL.lst (LE.take (LE.rom 0) (IE.add (IE.fn .i64 4 (AL.lst (LE.rom 0) AL.nil)) (IE.fn .u64 3 (AL.lst (LE.rom 0) AL.nil)))) AL.nil)) (IE.lit 65536))) AL.nil)) (LE.cat (LE.one (AL.int .u8 (IE.wrap .u8 (IE.bin BinOp.quo .u32 (IE.fn .u32 20 (AL.lst (LE.take (LE.rom 0) (IE.add (IE.fn .i64 4 (AL.lst (LE.rom 0) AL.nil)) (IE.fn .u64 3 (AL.lst (LE.rom 0) AL.nil)))) AL.nil)) (IE.lit 256))) AL.nil)) (LE.one (AL.int .u8 (IE.wrap .u8 (IE.fn .u32 20 (AL.lst (LE.take (LE.rom 0) (IE.add (IE.fn .i64 4 (AL.lst (LE.rom 0) AL.nil)) (IE.fn .u64 3 (AL.lst (LE.rom 0) AL.nil)))) AL.nil))) AL.nil))))) (LE.take (LE.drop (LE.rom 0) (IE.add (IE.fn .i64 4 (AL.lst (LE.rom 0) AL.nil)) (IE.fn .u64 3 (AL.lst (LE.rom 0) AL.nil)))) (IE.lit 4))) :: pcopens_18)
def pcopens_21 : List BE := ((BE.leq (LE.cat (LE.one (AL.int .u8 (IE.wrap .u8 (IE.bin BinOp.quo .u32 (IE.fn .u32 20 (AL.lst (LE.take (LE.rom 0) (IE.add (IE.fn .i64 4 (AL.lst (LE.rom 0) AL.nil)) (IE.fn .u64 3 (AL.lst (LE.rom 0) AL.nil)))) AL.nil)) (IE.lit 16777216))) AL.nil)) (LE.cat (LE.one (AL.int .u8 (IE.wrap .u8 (IE.bin BinOp.quo .u32 (IE.fn .u32 20 (AL.lst (LE.take (LE.rom 0) (IE.add (IE.fn .i64 4 (AL.lst (LE.rom 0) AL.nil)) (IE.fn .u64 3 (AL.lst (LE.rom 0) AL.nil)))) AL.nil)) (IE.lit 65536))) AL.nil)) (LE.cat (LE.one (AL.int .u8 (IE.wrap .u8 (IE.bin BinOp.quo .u32 (IE.fn .u32 20 (AL.lst (LE.take (LE.rom 0) (IE.add (IE.fn .i64 4 (AL.lst (LE.rom 0) AL.nil)) (IE.fn .u64 3 (AL.lst (LE.rom 0) AL.nil)))) AL.nil)) (IE.lit 256))) AL.nil)) (LE.one (AL.int .u8 (IE.wrap .u8 (IE.fn .u32 20 (AL.lst (LE.take (LE.rom 0) (IE.add (IE.fn .i64 4 (AL.lst (LE.rom 0) AL.nil)) (IE.fn .u64 3 (AL.lst (LE.rom 0) AL.nil)))) AL.nil))) AL.nil))))) (LE.take (LE.drop (LE.rom 0) (IE.add (IE.fn .i64 4 (AL.lst (LE.rom 0) AL.nil)) (IE.fn .u64 3 (AL.lst (LE.rom 0) AL.nil)))) (IE.lit 4))) :: pcopens_19)
def pcopens_22 : List BE := ((BE.eq (IE.fn .u64 3 (AL.lst (LE.rom 0) AL.nil)) (IE.lit 0)) :: pcopens_20)
def pcopens_23 : List BE := ((BE.leq (LE.fn 5 (AL.lst (LE.rom 0) AL.nil)) (LE.take (LE.drop (LE.rom 0) (IE.fn .i64 4 (AL.lst (LE.rom 0) AL.nil))) (IE.fn .u64 3 (AL.lst (LE.rom 0) AL.nil)))) :: pcopens_21)
def wopens_0 : VW := (VW.done ((BE.eq (IE.fn .i64 22 (AL.lst (LE.rom 0) AL.nil)) (IE.add (IE.add (IE.fn .i64 4 (AL.lst (LE.rom 0) AL.nil)) (IE.fn .u64 3 (AL.lst (LE.rom 0) AL.nil))) (IE.lit 4))) :: pcopens_22) (some []))
def wopens_1 : VW := (VW.done ((BE.not (BE.eq (IE.fn .i64 22 (AL.lst (LE.rom 0) AL.nil)) (IE.add (IE.add (IE.fn .i64 4 (AL.lst (LE.rom 0) AL.nil)) (IE.fn .u64 3 (AL.lst (LE.rom 0) AL.nil))) (IE.lit 4)))) :: pcopens_22) (some [(G.b (BE.lit true) (BE.lit false))]))
def wopens_2 : VW := (VW.done ((BE.not (BE.eq (IE.fn .u64 3 (AL.lst (LE.rom 0) AL.nil)) (IE.lit 0))) :: pcopens_20) (some [(G.b (BE.lit true) (BE.lit false))]))
def wopens_3 : VW := (VW.done ((BE.not (BE.leq (LE.cat (LE.one (AL.int .u8 (IE.wrap .u8 (IE.bin BinOp.quo .u32 (IE.fn .u32 20 (AL.lst (LE.take (LE.rom 0) (IE.add (IE.fn .i64 4 (AL.lst (LE.rom 0) AL.nil)) (IE.fn .u64 3 (AL.lst (LE.rom 0) AL.nil)))) AL.nil)) (IE.lit 16777216))) AL.nil)) (LE.cat (LE.one (AL.int .u8 (IE.wrap .u8 (IE.bin BinOp.quo .u32 (IE.fn .u32 20 (AL.lst (LE.take (LE.rom 0) (IE.add (IE.fn .i64 4 (AL.lst (LE.rom 0) AL.nil)) (IE.fn .u64 3 (AL.lst (LE.rom 0) AL.nil)))) AL.nil)) (IE.lit 65536))) AL.nil)) (LE.cat (LE.one (AL.int .u8 (IE.wrap .u8 (IE.bin BinOp.quo .u32 (IE.fn .u32 20 (AL.lst (LE.take (LE.rom 0) (IE.add (IE.fn .i64 4 (AL.lst (LE.rom 0) AL.nil)) (IE.fn .u64 3 (AL.lst (LE.rom 0) AL.nil)))) AL.nil)) (IE.lit 256))) AL.nil)) (LE.one (AL.int .u8 (IE.wrap .u8 (IE.fn .u32 20 (AL.lst (LE.take (LE.rom 0) (IE.add (IE.fn .i64 4 (AL.lst (LE.rom 0) AL.nil)) (IE.fn .u64 3 (AL.lst (LE.rom 0) AL.nil)))) AL.nil))) AL.nil))))) (LE.take (LE.drop (LE.rom 0) (IE.add (IE.fn .i64 4 (AL.lst (LE.rom 0) AL.nil)) (IE.fn .u64 3 (AL.lst (LE.rom 0) AL.nil)))) (IE.lit 4)))) :: pcopens_18) (some [(G.b (BE.lit true) (BE.lit false))]))
def wopens_4 : VW := (VW.done ((BE.not (BE.le (IE.add (IE.add (IE.fn .i64 4 (AL.lst (LE.rom 0) AL.nil)) (IE.fn .u64 3 (AL.lst (LE.rom 0) AL.nil))) (IE.lit 4)) (IE.len (LE.rom 0)))) :: pcopens_16) (some [(G.b (BE.lit true) (BE.lit false))]))
def wopens_5 : VW := (VW.done ((BE.not (BE.le (IE.fn .u64 3 (AL.lst (LE.rom 0) AL.nil)) (IE.lit 65536))) :: pcopens_12) (some [(G.b (BE.lit true) (BE.lit false))]))
def wopens_6 : VW := (VW.done ((BE.not (BE.eq (IE.fn .i64 5 (AL.lst (LE.rom 0) AL.nil)) (IE.lit 0))) :: pcopens_8) (some [(G.b (BE.lit true) (BE.lit false))]))
def wopens_7 : VW := (VW.done ((BE.eq (IE.fn .i64 22 (AL.lst (LE.rom 0) AL.nil)) (IE.add (IE.add (IE.fn .i64 4 (AL.lst (LE.rom 0) AL.nil)) (IE.fn .u64 3 (AL.lst (LE.rom 0) AL.nil))) (IE.lit 4))) :: pcopens_23) (some []))
def wopens_8 : VW := (VW.done ((BE.not (BE.eq (IE.fn .i64 22 (AL.lst (LE.rom 0) AL.nil)) (IE.add (IE.add (IE.fn .i64 4 (AL.lst (LE.rom 0) AL.nil)) (IE.fn .u64 3 (AL.lst (LE.rom 0) AL.nil))) (IE.lit 4)))) :: pcopens_23) (some [(G.b (BE.lit true) (BE.lit false))]))
def wopens_9 : VW := (VW.done ((BE.not (BE.leq (LE.fn 5 (AL.lst (LE.rom 0) AL.nil)) (LE.take (LE.drop (LE.rom 0) (IE.fn .i64 4 (AL.lst (LE.rom 0) AL.nil))) (IE.fn .u64 3 (AL.lst (LE.rom 0) AL.nil))))) :: pcopens_21) (some [(G.b (BE.lit true) (BE.lit false))]))
def wopens_10 : VW := (VW.done ((BE.not (BE.leq (LE.cat (LE.one (AL.int .u8 (IE.wrap .u8 (IE.bin BinOp.quo .u32 (IE.fn .u32 20 (AL.lst (LE.take (LE.rom 0) (IE.add (IE.fn .i64 4 (AL.lst (LE.rom 0) AL.nil)) (IE.fn .u64 3 (AL.lst (LE.rom 0) AL.nil)))) AL.nil)) (IE.lit 16777216))) AL.nil)) (LE.cat (LE.one (AL.int .u8 (IE.wrap .u8 (IE.bin BinOp.quo .u32 (IE.fn .u32 20 (AL.lst (LE.take (LE.rom 0) (IE.add (IE.fn .i64 4 (AL.lst (LE.rom 0) AL.nil)) (IE.fn .u64 3 (AL.lst (LE.rom 0) AL.nil)))) AL.nil)) (IE.lit 65536))) AL.nil)) (LE.cat (LE.one (AL.int .u8 (IE.wrap .u8 (IE.bin BinOp.quo .u32 (IE.fn .u32 20 (AL.lst (LE.take (LE.rom 0) (IE.add (IE.fn .i64 4 (AL.lst (LE.rom 0) AL.nil)) (IE.fn .u64 3 (AL.lst (LE.rom 0) AL.nil)))) AL.nil)) (IE.lit 256))) AL.nil)) (LE.one (AL.int .u8 (IE.wrap .u8 (IE.fn .u32 20 (AL.lst (LE.take (LE.rom 0) (IE.add (IE.fn .i64 4 (AL.lst (LE.rom 0) AL.nil)) (IE.fn .u64 3 (AL.lst (LE.rom 0) AL.nil)))) AL.nil))) AL.nil))))) (LE.take (LE.drop (LE.rom 0) (IE.add (IE.fn .i64 4 (AL.lst (LE.rom 0) AL.nil)) (IE.fn .u64 3 (AL.lst (LE.rom 0) AL.nil)))) (IE.lit 4)))) :: pcopens_19) (some [(G.b (BE.lit true) (BE.lit false))]))
def wopens_11 : VW := (VW.done ((BE.not (BE.le (IE.add (IE.add (IE.fn .i64 4 (AL.lst (LE.rom 0) AL.nil)) (IE.fn .u64 3 (AL.lst (LE.rom 0) AL.nil))) (IE.lit 4)) (IE.len (LE.rom 0)))) :: pcopens_17) (some [(G.b (BE.lit true) (BE.lit false))]))
def wopens_12 : VW := (VW.done ((BE.not (BE.le (IE.fn .u64 3 (AL.lst (LE.rom 0) AL.nil)) (IE.lit 65536))) :: pcopens_13) (some [(G.b (BE.lit true) (BE.lit false))]))
def wopens_13 : VW := (VW.done ((BE.not (BE.eq (IE.fn .i64 5 (AL.lst (LE.rom 0) AL.nil)) (IE.lit 0))) :: pcopens_9) (some [(G.b (BE.lit true) (BE.lit false))]))
def wopens_14 : VW := (VW.done ((BE.eq (IE.fn .u64 3 (AL.lst (LE.rom 0) AL.nil)) (IE.lit 0)) :: pcopens_14) (some [(G.b (BE.lit true) (BE.lit false))]))
def wopens_15 : VW := (VW.done ((BE.not (BE.eq (IE.fn .u64 3 (AL.lst (LE.rom 0) AL.nil)) (IE.lit 0))) :: pcopens_14) (some [(G.b (BE.lit true) (BE.lit false))]))
def wopens_16 : VW := (VW.done ((BE.eq (IE.fn .i64 21 (AL.lst (LE.rom 0) AL.nil)) (IE.lit 120)) :: pcopens_15) (some []))
def wopens_17 : VW := (VW.done ((BE.not (BE.eq (IE.fn .i64 21 (AL.lst (LE.rom 0) AL.nil)) (IE.lit 120))) :: pcopens_15) (some [(G.b (BE.lit true) (BE.lit false))]))
def wopens_18 : VW := (VW.done ((BE.eq (IE.fn .i64 21 (AL.lst (LE.rom 0) AL.nil)) (IE.lit 110)) :: pcopens_11) (some []))
def wopens_19 : VW := (VW.done ((BE.not (BE.eq (IE.fn .i64 21 (AL.lst (LE.rom 0) AL.nil)) (IE.lit 110))) :: pcopens_11) (some [(G.b (BE.lit true) (BE.lit false))]))
def wopens_20 : VW := (VW.done ((BE.eq (IE.fn .i64 21 (AL.lst (LE.rom 0) AL.nil)) (IE.lit 3)) :: pcopens_7) (some []))
def wopens_21 : VW := (VW.done ((BE.not (BE.eq (IE.fn .i64 21 (AL.lst (LE.rom 0) AL.nil)) (IE.lit 3))) :: pcopens_7) (some [(G.b (BE.lit true) (BE.lit false))]))
def wopens_22 : VW := (VW.done ((BE.eq (IE.fn .i64 21 (AL.lst (LE.rom 0) AL.nil)) (IE.fn .i64 5 (AL.lst (LE.rom 0) AL.nil))) :: pcopens_5) (some []))
def wopens_23 : VW := (VW.done ((BE.not (BE.eq (IE.fn .i64 21 (AL.lst (LE.rom 0) AL.nil)) (IE.fn .i64 5 (AL.lst (LE.rom 0) AL.nil)))) :: pcopens_5) (some [(G.b (BE.lit true) (BE.lit false))]))
def wopens_24 : VW := (VW.done ((BE.not (BE.le (IE.len (LE.rom 0)) (IE.lit 2000))) :: pcopens_0) (some []))
def vwopens : List VW := [wopens_0, wopens_1, wopens_2, wopens_3, wopens_4, wopens_5, wopens_6, wopens_7, wopens_8, wopens_9, wopens_10, wopens_11, wopens_12, wopens_13, wopens_14, wopens_15, wopens_16, wopens_17, wopens_18, wopens_19, wopens_20, wopens_21, wopens_22, wopens_23, wopens_24]
end
theorem vcopens_0 : VD TTopens (st0 cOpens) wopens_0 := by
  intro ρ kn hp
  exact all_nil
theorem vcopens_1 : VD TTopens (st0 cOpens) wopens_1 := by
  intro ρ kn hp
  have hF : ρ.z.F = oct.Φ := kn.F
  simp only [h_nil, h_cons, d_le, d_eq, d_not, d_var, d_lit, d_cel, d_leq, d_fn, d_and, d_iff, IE.den, LE.den, AL.den, lenV, true_and, and_true, pcopens_22, pcopens_20, pcopens_18, pcopens_16, pcopens_12, pcopens_8, pcopens_2, pcopens_1, pcopens_0, hF, pi2, pi3, pi4, pi5, pi6, pi7, pi20, pl1, pi21, pi22, pl2, cE, cN, cV, cO, cM, sum_in, List.map_cons, List.map_nil, AV.cell, four_qs] at hp
  obtain ⟨p1, p2, p3, p4, p5, p6, p7, p8, p9, p10, p11, p12, p13, p14, p15⟩ := hp
  exfalso
  have hT : Typed byteK (ρ.z.rl 0) := kn.rom 0 _ _ rfl
  try simp only [pl5t hT] at *
  have hN := rdN_rng (ρ.z.rl 0)
  have hV := rdV_0 (ρ.z.rl 0)
  rcases op_cases (ρ.z.rl 0) with ⟨_, _⟩ | ⟨_, _, _⟩ | ⟨_, _, _, _⟩ | ⟨_, _, _, _, _⟩ | ⟨_, _, _, _, _, _, _, _⟩ <;> first
    | omega
    | contradiction
theorem vcopens_2 : VD TTopens (st0 cOpens) wopens_2 := by
  intro ρ kn hp
  have hF : ρ.z.F = oct.Φ := kn.F
  simp only [h_nil, h_cons, d_le, d_eq, d_not, d_var, d_lit, d_cel, d_leq, d_fn, d_and, d_iff, IE.den, LE.den, AL.den, lenV, true_and, and_true, pcopens_20, pcopens_18, pcopens_16, pcopens_12, pcopens_8, pcopens_2, pcopens_1, pcopens_0, hF, pi2, pi3, pi4, pi5, pi6, pi7, pi20, pl1, pi21, pi22, pl2, cE, cN, cV, cO, cM, sum_in, List.map_cons, List.map_nil, AV.cell, four_qs] at hp
  obtain ⟨p1, p2, p3, p4, p5, p6, p7, p8, p9, p10, p11, p12, p13, p14⟩ := hp
  exfalso
  have hT : Typed byteK (ρ.z.rl 0) := kn.rom 0 _ _ rfl
  try simp only [pl5t hT] at *
  have hN := rdN_rng (ρ.z.rl 0)
  have hV := rdV_0 (ρ.z.rl 0)
  rcases op_cases (ρ.z.rl 0) with ⟨_, _⟩ | ⟨_, _, _⟩ | ⟨_, _, _, _⟩ | ⟨_, _, _, _, _⟩ | ⟨_, _, _, _, _, _, _, _⟩ <;> first
    | omega
    | contradiction
theorem vcopens_3 : VD TTopens (st0 cOpens) wopens_3 := by
  intro ρ kn hp
  have hF : ρ.z.F = oct.Φ := kn.F
  simp only [h_nil, h_cons, d_le, d_eq, d_not, d_var, d_lit, d_cel, d_leq, d_fn, d_and, d_iff, IE.den, LE.den, AL.den, lenV, true_and, and_true, pcopens_18, pcopens_16, pcopens_12, pcopens_8, pcopens_2, pcopens_1, pcopens_0, hF, pi2, pi3, pi4, pi5, pi6, pi7, pi20, pl1, pi21, pi22, pl2, cE, cN, cV, cO, cM, sum_in, List.map_cons, List.map_nil, AV.cell, four_qs] at hp
  obtain ⟨p1, p2, p3, p4, p5, p6, p7, p8, p9, p10, p11, p12, p13⟩ := hp
  exfalso
  have hT : Typed byteK (ρ.z.rl 0) := kn.rom 0 _ _ rfl
  try simp only [pl5t hT] at *
  have hN := rdN_rng (ρ.z.rl 0)
  have hV := rdV_0 (ρ.z.rl 0)
  rcases op_cases (ρ.z.rl 0) with ⟨_, _⟩ | ⟨_, _, _⟩ | ⟨_, _, _, _⟩ | ⟨_, _, _, _, _⟩ | ⟨_, _, _, _, _, _, _, _⟩ <;> first
    | omega
    | contradiction
theorem vcopens_4 : VD TTopens (st0 cOpens) wopens_4 := by
  intro ρ kn hp
  have hF : ρ.z.F = oct.Φ := kn.F
  simp only [h_nil, h_cons, d_le, d_eq, d_not, d_var, d_lit, d_cel, d_leq, d_fn, d_and, d_iff, IE.den, LE.den, AL.den, lenV, true_and, and_true, pcopens_16, pcopens_12, pcopens_8, pcopens_2, pcopens_1, pcopens_0, hF, pi2, pi3, pi4, pi5, pi6, pi7, pi20, pl1, pi21, pi22, pl2, cE, cN, cV, cO, cM, sum_in, List.map_cons, List.map_nil, AV.cell, four_qs] at hp
  obtain ⟨p1, p2, p3, p4, p5, p6, p7, p8, p9, p10, p11, p12⟩ := hp
  exfalso
  have hT : Typed byteK (ρ.z.rl 0) := kn.rom 0 _ _ rfl
  try simp only [pl5t hT] at *
  have hN := rdN_rng (ρ.z.rl 0)
  have hV := rdV_0 (ρ.z.rl 0)
  rcases op_cases (ρ.z.rl 0) with ⟨_, _⟩ | ⟨_, _, _⟩ | ⟨_, _, _, _⟩ | ⟨_, _, _, _, _⟩ | ⟨_, _, _, _, _, _, _, _⟩ <;> first
    | omega
    | contradiction
theorem vcopens_5 : VD TTopens (st0 cOpens) wopens_5 := by
  intro ρ kn hp
  have hF : ρ.z.F = oct.Φ := kn.F
  simp only [h_nil, h_cons, d_le, d_eq, d_not, d_var, d_lit, d_cel, d_leq, d_fn, d_and, d_iff, IE.den, LE.den, AL.den, lenV, true_and, and_true, pcopens_12, pcopens_8, pcopens_2, pcopens_1, pcopens_0, hF, pi2, pi3, pi4, pi5, pi6, pi7, pi20, pl1, pi21, pi22, pl2, cE, cN, cV, cO, cM, sum_in, List.map_cons, List.map_nil, AV.cell, four_qs] at hp
  obtain ⟨p1, p2, p3, p4, p5, p6, p7, p8, p9, p10, p11⟩ := hp
  exfalso
  have hT : Typed byteK (ρ.z.rl 0) := kn.rom 0 _ _ rfl
  try simp only [pl5t hT] at *
  have hN := rdN_rng (ρ.z.rl 0)
  have hV := rdV_0 (ρ.z.rl 0)
  rcases op_cases (ρ.z.rl 0) with ⟨_, _⟩ | ⟨_, _, _⟩ | ⟨_, _, _, _⟩ | ⟨_, _, _, _, _⟩ | ⟨_, _, _, _, _, _, _, _⟩ <;> first
    | omega
    | contradiction
theorem vcopens_6 : VD TTopens (st0 cOpens) wopens_6 := by
  intro ρ kn hp
  have hF : ρ.z.F = oct.Φ := kn.F
  simp only [h_nil, h_cons, d_le, d_eq, d_not, d_var, d_lit, d_cel, d_leq, d_fn, d_and, d_iff, IE.den, LE.den, AL.den, lenV, true_and, and_true, pcopens_8, pcopens_2, pcopens_1, pcopens_0, hF, pi2, pi3, pi4, pi5, pi6, pi7, pi20, pl1, pi21, pi22, pl2, cE, cN, cV, cO, cM, sum_in, List.map_cons, List.map_nil, AV.cell, four_qs] at hp
  obtain ⟨p1, p2, p3, p4, p5, p6, p7, p8, p9, p10⟩ := hp
  exfalso
  have hT : Typed byteK (ρ.z.rl 0) := kn.rom 0 _ _ rfl
  try simp only [pl5t hT] at *
  have hN := rdN_rng (ρ.z.rl 0)
  have hV := rdV_0 (ρ.z.rl 0)
  rcases op_cases (ρ.z.rl 0) with ⟨_, _⟩ | ⟨_, _, _⟩ | ⟨_, _, _, _⟩ | ⟨_, _, _, _, _⟩ | ⟨_, _, _, _, _, _, _, _⟩ <;> first
    | omega
    | contradiction
theorem vcopens_7 : VD TTopens (st0 cOpens) wopens_7 := by
  intro ρ kn hp
  exact all_nil
theorem vcopens_8 : VD TTopens (st0 cOpens) wopens_8 := by
  intro ρ kn hp
  have hF : ρ.z.F = oct.Φ := kn.F
  simp only [h_nil, h_cons, d_le, d_eq, d_not, d_var, d_lit, d_cel, d_leq, d_fn, d_and, d_iff, IE.den, LE.den, AL.den, lenV, true_and, and_true, pcopens_23, pcopens_21, pcopens_19, pcopens_17, pcopens_13, pcopens_9, pcopens_2, pcopens_1, pcopens_0, hF, pi2, pi3, pi4, pi5, pi6, pi7, pi20, pl1, pi21, pi22, pl2, cE, cN, cV, cO, cM, sum_in, List.map_cons, List.map_nil, AV.cell, four_qs] at hp
  obtain ⟨p1, p2, p3, p4, p5, p6, p7, p8, p9, p10, p11, p12, p13, p14, p15⟩ := hp
  exfalso
  have hT : Typed byteK (ρ.z.rl 0) := kn.rom 0 _ _ rfl
  try simp only [pl5t hT] at *
  have hN := rdN_rng (ρ.z.rl 0)
  have hV := rdV_0 (ρ.z.rl 0)
  rcases op_cases (ρ.z.rl 0) with ⟨_, _⟩ | ⟨_, _, _⟩ | ⟨_, _, _, _⟩ | ⟨_, _, _, _, _⟩ | ⟨_, _, _, _, _, _, _, _⟩ <;> first
    | omega
    | contradiction
theorem vcopens_9 : VD TTopens (st0 cOpens) wopens_9 := by
  intro ρ kn hp
  have hF : ρ.z.F = oct.Φ := kn.F
  simp only [h_nil, h_cons, d_le, d_eq, d_not, d_var, d_lit, d_cel, d_leq, d_fn, d_and, d_iff, IE.den, LE.den, AL.den, lenV, true_and, and_true, pcopens_21, pcopens_19, pcopens_17, pcopens_13, pcopens_9, pcopens_2, pcopens_1, pcopens_0, hF, pi2, pi3, pi4, pi5, pi6, pi7, pi20, pl1, pi21, pi22, pl2, cE, cN, cV, cO, cM, sum_in, List.map_cons, List.map_nil, AV.cell, four_qs] at hp
  obtain ⟨p1, p2, p3, p4, p5, p6, p7, p8, p9, p10, p11, p12, p13, p14⟩ := hp
  exfalso
  have hT : Typed byteK (ρ.z.rl 0) := kn.rom 0 _ _ rfl
  try simp only [pl5t hT] at *
  have hN := rdN_rng (ρ.z.rl 0)
  have hV := rdV_0 (ρ.z.rl 0)
  rcases op_cases (ρ.z.rl 0) with ⟨_, _⟩ | ⟨_, _, _⟩ | ⟨_, _, _, _⟩ | ⟨_, _, _, _, _⟩ | ⟨_, _, _, _, _, _, _, _⟩ <;> first
    | omega
    | contradiction
theorem vcopens_10 : VD TTopens (st0 cOpens) wopens_10 := by
  intro ρ kn hp
  have hF : ρ.z.F = oct.Φ := kn.F
  simp only [h_nil, h_cons, d_le, d_eq, d_not, d_var, d_lit, d_cel, d_leq, d_fn, d_and, d_iff, IE.den, LE.den, AL.den, lenV, true_and, and_true, pcopens_19, pcopens_17, pcopens_13, pcopens_9, pcopens_2, pcopens_1, pcopens_0, hF, pi2, pi3, pi4, pi5, pi6, pi7, pi20, pl1, pi21, pi22, pl2, cE, cN, cV, cO, cM, sum_in, List.map_cons, List.map_nil, AV.cell, four_qs] at hp
  obtain ⟨p1, p2, p3, p4, p5, p6, p7, p8, p9, p10, p11, p12, p13⟩ := hp
  exfalso
  have hT : Typed byteK (ρ.z.rl 0) := kn.rom 0 _ _ rfl
  try simp only [pl5t hT] at *
  have hN := rdN_rng (ρ.z.rl 0)
  have hV := rdV_0 (ρ.z.rl 0)
  rcases op_cases (ρ.z.rl 0) with ⟨_, _⟩ | ⟨_, _, _⟩ | ⟨_, _, _, _⟩ | ⟨_, _, _, _, _⟩ | ⟨_, _, _, _, _, _, _, _⟩ <;> first
    | omega
    | contradiction
theorem vcopens_11 : VD TTopens (st0 cOpens) wopens_11 := by
  intro ρ kn hp
  have hF : ρ.z.F = oct.Φ := kn.F
  simp only [h_nil, h_cons, d_le, d_eq, d_not, d_var, d_lit, d_cel, d_leq, d_fn, d_and, d_iff, IE.den, LE.den, AL.den, lenV, true_and, and_true, pcopens_17, pcopens_13, pcopens_9, pcopens_2, pcopens_1, pcopens_0, hF, pi2, pi3, pi4, pi5, pi6, pi7, pi20, pl1, pi21, pi22, pl2, cE, cN, cV, cO, cM, sum_in, List.map_cons, List.map_nil, AV.cell, four_qs] at hp
  obtain ⟨p1, p2, p3, p4, p5, p6, p7, p8, p9, p10, p11, p12⟩ := hp
  exfalso
  have hT : Typed byteK (ρ.z.rl 0) := kn.rom 0 _ _ rfl
  try simp only [pl5t hT] at *
  have hN := rdN_rng (ρ.z.rl 0)
  have hV := rdV_0 (ρ.z.rl 0)
  rcases op_cases (ρ.z.rl 0) with ⟨_, _⟩ | ⟨_, _, _⟩ | ⟨_, _, _, _⟩ | ⟨_, _, _, _, _⟩ | ⟨_, _, _, _, _, _, _, _⟩ <;> first
    | omega
    | contradiction
theorem vcopens_12 : VD TTopens (st0 cOpens) wopens_12 := by
  intro ρ kn hp
  have hF : ρ.z.F = oct.Φ := kn.F
  simp only [h_nil, h_cons, d_le, d_eq, d_not, d_var, d_lit, d_cel, d_leq, d_fn, d_and, d_iff, IE.den, LE.den, AL.den, lenV, true_and, and_true, pcopens_13, pcopens_9, pcopens_2, pcopens_1, pcopens_0, hF, pi2, pi3, pi4, pi5, pi6, pi7, pi20, pl1, pi21, pi22, pl2, cE, cN, cV, cO, cM, sum_in, List.map_cons, List.map_nil, AV.cell, four_qs] at hp
  obtain ⟨p1, p2, p3, p4, p5, p6, p7, p8, p9, p10, p11⟩ := hp
  exfalso
  have hT : Typed byteK (ρ.z.rl 0) := kn.rom 0 _ _ rfl
  try simp only [pl5t hT] at *
  have hN := rdN_rng (ρ.z.rl 0)
  have hV := rdV_0 (ρ.z.rl 0)
  rcases op_cases (ρ.z.rl 0) with ⟨_, _⟩ | ⟨_, _, _⟩ | ⟨_, _, _, _⟩ | ⟨_, _, _, _, _⟩ | ⟨_, _, _, _, _, _, _, _⟩ <;> first
    | omega
    | contradiction
theorem vcopens_13 : VD TTopens (st0 cOpens) wopens_13 := by
  intro ρ kn hp
  have hF : ρ.z.F = oct.Φ := kn.F
  simp only [h_nil, h_cons, d_le, d_eq, d_not, d_var, d_lit, d_cel, d_leq, d_fn, d_and, d_iff, IE.den, LE.den, AL.den, lenV, true_and, and_true, pcopens_9, pcopens_2, pcopens_1, pcopens_0, hF, pi2, pi3, pi4, pi5, pi6, pi7, pi20, pl1, pi21, pi22, pl2, cE, cN, cV, cO, cM, sum_in, List.map_cons, List.map_nil, AV.cell, four_qs] at hp
  obtain ⟨p1, p2, p3, p4, p5, p6, p7, p8, p9, p10⟩ := hp
  exfalso
  have hT : Typed byteK (ρ.z.rl 0) := kn.rom 0 _ _ rfl
  try simp only [pl5t hT] at *
  have hN := rdN_rng (ρ.z.rl 0)
  have hV := rdV_0 (ρ.z.rl 0)
  rcases op_cases (ρ.z.rl 0) with ⟨_, _⟩ | ⟨_, _, _⟩ | ⟨_, _, _, _⟩ | ⟨_, _, _, _, _⟩ | ⟨_, _, _, _, _, _, _, _⟩ <;> first
    | omega
    | contradiction
theorem vcopens_14 : VD TTopens (st0 cOpens) wopens_14 := by
  intro ρ kn hp
  have hF : ρ.z.F = oct.Φ := kn.F
  simp only [h_nil, h_cons, d_le, d_eq, d_not, d_var, d_lit, d_cel, d_leq, d_fn, d_and, d_iff, IE.den, LE.den, AL.den, lenV, true_and, and_true, pcopens_14, pcopens_10, pcopens_6, pcopens_4, pcopens_3, pcopens_1, pcopens_0, hF, pi2, pi3, pi4, pi5, pi6, pi7, pi20, pl1, pi21, pi22, pl2, cE, cN, cV, cO, cM, sum_in, List.map_cons, List.map_nil, AV.cell, four_qs] at hp
  obtain ⟨p1, p2, p3, p4, p5, p6, p7, p8, p9, p10, p11⟩ := hp
  exfalso
  have hT : Typed byteK (ρ.z.rl 0) := kn.rom 0 _ _ rfl
  try simp only [pl5t hT] at *
  have hN := rdN_rng (ρ.z.rl 0)
  have hV := rdV_0 (ρ.z.rl 0)
  rcases op_cases (ρ.z.rl 0) with ⟨_, _⟩ | ⟨_, _, _⟩ | ⟨_, _, _, _⟩ | ⟨_, _, _, _, _⟩ | ⟨_, _, _, _, _, _, _, _⟩ <;> first
    | omega
    | contradiction
theorem vcopens_15 : VD TTopens (st0 cOpens) wopens_15 := by
  intro ρ kn hp
  have hF : ρ.z.F = oct.Φ := kn.F
  simp only [h_nil, h_cons, d_le, d_eq, d_not, d_var, d_lit, d_cel, d_leq, d_fn, d_and, d_iff, IE.den, LE.den, AL.den, lenV, true_and, and_true, pcopens_14, pcopens_10, pcopens_6, pcopens_4, pcopens_3, pcopens_1, pcopens_0, hF, pi2, pi3, pi4, pi5, pi6, pi7, pi20, pl1, pi21, pi22, pl2, cE, cN, cV, cO, cM, sum_in, List.map_cons, List.map_nil, AV.cell, four_qs] at hp
  obtain ⟨p1, p2, p3, p4, p5, p6, p7, p8, p9, p10, p11⟩ := hp
  exfalso
  have hT : Typed byteK (ρ.z.rl 0) := kn.rom 0 _ _ rfl
  try simp only [pl5t hT] at *
  have hN := rdN_rng (ρ.z.rl 0)
  have hV := rdV_0 (ρ.z.rl 0)
  rcases op_cases (ρ.z.rl 0) with ⟨_, _⟩ | ⟨_, _, _⟩ | ⟨_, _, _, _⟩ | ⟨_, _, _, _, _⟩ | ⟨_, _, _, _, _, _, _, _⟩ <;> first
    | omega
    | contradiction
theorem vcopens_16 : VD TTopens (st0 cOpens) wopens_16 := by
  intro ρ kn hp
  exact all_nil
theorem vcopens_17 : VD TTopens (st0 cOpens) wopens_17 := by
  intro ρ kn hp
  have hF : ρ.z.F = oct.Φ := kn.F
  simp only [h_nil, h_cons, d_le, d_eq, d_not, d_var, d_lit, d_cel, d_leq, d_fn, d_and, d_iff, IE.den, LE.den, AL.den, lenV, true_and, and_true, pcopens_15, pcopens_10, pcopens_6, pcopens_4, pcopens_3, pcopens_1, pcopens_0, hF, pi2, pi3, pi4, pi5, pi6, pi7, pi20, pl1, pi21, pi22, pl2, cE, cN, cV, cO, cM, sum_in, List.map_cons, List.map_nil, AV.cell, four_qs] at hp
  obtain ⟨p1, p2, p3, p4, p5, p6, p7, p8, p9, p10, p11⟩ := hp
  exfalso
  have hT : Typed byteK (ρ.z.rl 0) := kn.rom 0 _ _ rfl
  try simp only [pl5t hT] at *
  have hN := rdN_rng (ρ.z.rl 0)
  have hV := rdV_0 (ρ.z.rl 0)
  rcases op_cases (ρ.z.rl 0) with ⟨_, _⟩ | ⟨_, _, _⟩ | ⟨_, _, _, _⟩ | ⟨_, _, _, _, _⟩ | ⟨_, _, _, _, _, _, _, _⟩ <;> first
    | omega
    | contradiction
theorem vcopens_18 : VD TTopens (st0 cOpens) wopens_18 := by
  intro ρ kn hp
  exact all_nil
theorem vcopens_19 : VD TTopens (st0 cOpens) wopens_19 := by
  intro ρ kn hp
  have hF : ρ.z.F = oct.Φ := kn.F
  simp only [h_nil, h_cons, d_le, d_eq, d_not, d_var, d_lit, d_cel, d_leq, d_fn, d_and, d_iff, IE.den, LE.den, AL.den, lenV, true_and, and_true, pcopens_11, pcopens_6, pcopens_4, pcopens_3, pcopens_1, pcopens_0, hF, pi2, pi3, pi4, pi5, pi6, pi7, pi20, pl1, pi21, pi22, pl2, cE, cN, cV, cO, cM, sum_in, List.map_cons, List.map_nil, AV.cell, four_qs] at hp
  obtain ⟨p1, p2, p3, p4, p5, p6, p7, p8, p9, p10⟩ := hp
  exfalso
  have hT : Typed byteK (ρ.z.rl 0) := kn.rom 0 _ _ rfl
  try simp only [pl5t hT] at *
  have hN := rdN_rng (ρ.z.rl 0)
  have hV := rdV_0 (ρ.z.rl 0)
  rcases op_cases (ρ.z.rl 0) with ⟨_, _⟩ | ⟨_, _, _⟩ | ⟨_, _, _, _⟩ | ⟨_, _, _, _, _⟩ | ⟨_, _, _, _, _, _, _, _⟩ <;> first
    | omega
    | contradiction
theorem vcopens_20 : VD TTopens (st0 cOpens) wopens_20 := by
  intro ρ kn hp
  exact all_nil
theorem vcopens_21 : VD TTopens (st0 cOpens) wopens_21 := by
  intro ρ kn hp
  have hF : ρ.z.F = oct.Φ := kn.F
  simp only [h_nil, h_cons, d_le, d_eq, d_not, d_var, d_lit, d_cel, d_leq, d_fn, d_and, d_iff, IE.den, LE.den, AL.den, lenV, true_and, and_true, pcopens_7, pcopens_4, pcopens_3, pcopens_1, pcopens_0, hF, pi2, pi3, pi4, pi5, pi6, pi7, pi20, pl1, pi21, pi22, pl2, cE, cN, cV, cO, cM, sum_in, List.map_cons, List.map_nil, AV.cell, four_qs] at hp
  obtain ⟨p1, p2, p3, p4, p5, p6, p7, p8, p9⟩ := hp
  exfalso
  have hT : Typed byteK (ρ.z.rl 0) := kn.rom 0 _ _ rfl
  try simp only [pl5t hT] at *
  have hN := rdN_rng (ρ.z.rl 0)
  have hV := rdV_0 (ρ.z.rl 0)
  rcases op_cases (ρ.z.rl 0) with ⟨_, _⟩ | ⟨_, _, _⟩ | ⟨_, _, _, _⟩ | ⟨_, _, _, _, _⟩ | ⟨_, _, _, _, _, _, _, _⟩ <;> first
    | omega
    | contradiction
theorem vcopens_22 : VD TTopens (st0 cOpens) wopens_22 := by
  intro ρ kn hp
  exact all_nil
theorem vcopens_23 : VD TTopens (st0 cOpens) wopens_23 := by
  intro ρ kn hp
  have hF : ρ.z.F = oct.Φ := kn.F
  simp only [h_nil, h_cons, d_le, d_eq, d_not, d_var, d_lit, d_cel, d_leq, d_fn, d_and, d_iff, IE.den, LE.den, AL.den, lenV, true_and, and_true, pcopens_5, pcopens_3, pcopens_1, pcopens_0, hF, pi2, pi3, pi4, pi5, pi6, pi7, pi20, pl1, pi21, pi22, pl2, cE, cN, cV, cO, cM, sum_in, List.map_cons, List.map_nil, AV.cell, four_qs] at hp
  obtain ⟨p1, p2, p3, p4, p5, p6, p7, p8⟩ := hp
  exfalso
  have hT : Typed byteK (ρ.z.rl 0) := kn.rom 0 _ _ rfl
  try simp only [pl5t hT] at *
  have hN := rdN_rng (ρ.z.rl 0)
  have hV := rdV_0 (ρ.z.rl 0)
  rcases op_cases (ρ.z.rl 0) with ⟨_, _⟩ | ⟨_, _, _⟩ | ⟨_, _, _, _⟩ | ⟨_, _, _, _, _⟩ | ⟨_, _, _, _, _, _, _, _⟩ <;> first
    | omega
    | contradiction
theorem vcopens_24 : VD TTopens (st0 cOpens) wopens_24 := by
  intro ρ kn hp
  exact all_nil
theorem told_opens : Sx.Told oct.Φ cOpens := told_vw (cs := [cWorks, cRRead, cRSum, cOpenNo, cOpenZ, cOpenY]) (all_cons told_works (all_cons told_rread (all_cons told_rsum (all_cons told_opno (all_cons told_opz (all_cons told_opy (all_nil))))))) 9000 vwopens (by kernel_rfl) (by kernel_rfl) (by kernel_rfl) (post_nil rfl) (by kernel_rfl) (by kernel_rfl) (all_cons vcopens_0 (all_cons vcopens_1 (all_cons vcopens_2 (all_cons vcopens_3 (all_cons vcopens_4 (all_cons vcopens_5 (all_cons vcopens_6 (all_cons vcopens_7 (all_cons vcopens_8 (all_cons vcopens_9 (all_cons vcopens_10 (all_cons vcopens_11 (all_cons vcopens_12 (all_cons vcopens_13 (all_cons vcopens_14 (all_cons vcopens_15 (all_cons vcopens_16 (all_cons vcopens_17 (all_cons vcopens_18 (all_cons vcopens_19 (all_cons vcopens_20 (all_cons vcopens_21 (all_cons vcopens_22 (all_cons vcopens_23 (all_cons vcopens_24 (all_nil))))))))))))))))))))))))))
noncomputable section
abbrev TTopensz : Tab := TM oct.Φ cOpens0.roms [cWorks, cRRead, cRSum, cOpenNo, cOpenZ, cOpenY] [mFill, mSum]
def pcopensz_0 : List BE := [(BE.lit true)]
def pcopensz_1 : List BE := ((BE.eq (IE.fn .i64 21 (AL.lst LE.nil AL.nil)) (IE.lit 0)) :: pcopensz_0)
def pcopensz_2 : List BE := ((BE.le (IE.lit 0) (IE.fn .i64 4 (AL.lst (LE.take (LE.rom 0) (IE.lit 0)) AL.nil))) :: (BE.le (IE.fn .i64 4 (AL.lst (LE.take (LE.rom 0) (IE.lit 0)) AL.nil)) (IE.lit 0)) :: (BE.le (IE.fn .i64 4 (AL.lst (LE.take (LE.rom 0) (IE.lit 0)) AL.nil)) (IE.lit 10)) :: (BE.not (BE.eq (IE.fn .i64 21 (AL.lst LE.nil AL.nil)) (IE.lit 0))) :: pcopensz_0)
def pcopensz_3 : List BE := ((BE.eq (IE.fn .i64 5 (AL.lst (LE.take (LE.rom 0) (IE.lit 0)) AL.nil)) (IE.lit 0)) :: pcopensz_2)
def pcopensz_4 : List BE := ((BE.not (BE.eq (IE.fn .i64 5 (AL.lst (LE.take (LE.rom 0) (IE.lit 0)) AL.nil)) (IE.lit 0))) :: pcopensz_2)
def pcopensz_5 : List BE := ((BE.le (IE.fn .u64 3 (AL.lst (LE.take (LE.rom 0) (IE.lit 0)) AL.nil)) (IE.lit 65536)) :: pcopensz_3)
def pcopensz_6 : List BE := ((BE.not (BE.le (IE.fn .u64 3 (AL.lst (LE.take (LE.rom 0) (IE.lit 0)) AL.nil)) (IE.lit 65536))) :: pcopensz_3)
def pcopensz_7 : List BE := ((BE.le (IE.lit 0) (IE.fn .i64 4 (AL.lst (LE.take (LE.rom 0) (IE.lit 0)) AL.nil))) :: (BE.le (IE.fn .i64 4 (AL.lst (LE.take (LE.rom 0) (IE.lit 0)) AL.nil)) (IE.lit 0)) :: (BE.le (IE.fn .i64 4 (AL.lst (LE.take (LE.rom 0) (IE.lit 0)) AL.nil)) (IE.lit 10)) :: (BE.le (IE.lit 5) (IE.fn .i64 22 (AL.lst LE.nil AL.nil))) :: (BE.le (IE.fn .i64 22 (AL.lst LE.nil AL.nil)) (IE.lit 0)) :: (BE.eq (IE.len (LE.fn 5 (AL.lst LE.nil AL.nil))) (IE.lit 0)) :: pcopensz_1)
def pcopensz_8 : List BE := ((BE.le (IE.lit 0) (IE.fn .i64 4 (AL.lst (LE.take (LE.rom 0) (IE.lit 0)) AL.nil))) :: (BE.le (IE.fn .i64 4 (AL.lst (LE.take (LE.rom 0) (IE.lit 0)) AL.nil)) (IE.lit 0)) :: (BE.le (IE.fn .i64 4 (AL.lst (LE.take (LE.rom 0) (IE.lit 0)) AL.nil)) (IE.lit 10)) :: (BE.le (IE.lit 5) (IE.fn .i64 22 (AL.lst LE.nil AL.nil))) :: (BE.le (IE.fn .i64 22 (AL.lst LE.nil AL.nil)) (IE.lit 0)) :: (BE.not (BE.eq (IE.len (LE.fn 5 (AL.lst LE.nil AL.nil))) (IE.lit 0))) :: pcopensz_1)
def pcopensz_9 : List BE := ((BE.eq (IE.fn .i64 5 (AL.lst (LE.take (LE.rom 0) (IE.lit 0)) AL.nil)) (IE.lit 0)) :: pcopensz_7)
def pcopensz_10 : List BE := ((BE.eq (IE.fn .i64 5 (AL.lst (LE.take (LE.rom 0) (IE.lit 0)) AL.nil)) (IE.lit 0)) :: pcopensz_8)
def wopensz_0 : VW := (VW.done ((BE.le (IE.fn .u64 3 (AL.lst (LE.take (LE.rom 0) (IE.lit 0)) AL.nil)) (IE.lit 65536)) :: pcopensz_9) (some [(G.b (BE.lit true) (BE.lit false))]))
def wopensz_1 : VW := (VW.done ((BE.not (BE.le (IE.fn .u64 3 (AL.lst (LE.take (LE.rom 0) (IE.lit 0)) AL.nil)) (IE.lit 65536))) :: pcopensz_9) (some [(G.b (BE.lit true) (BE.lit false))]))
def wopensz_2 : VW := (VW.done ((BE.not (BE.eq (IE.fn .i64 5 (AL.lst (LE.take (LE.rom 0) (IE.lit 0)) AL.nil)) (IE.lit 0))) :: pcopensz_7) (some [(G.b (BE.lit true) (BE.lit false))]))
def wopensz_3 : VW := (VW.done ((BE.le (IE.fn .u64 3 (AL.lst (LE.take (LE.rom 0) (IE.lit 0)) AL.nil)) (IE.lit 65536)) :: pcopensz_10) (some [(G.b (BE.lit true) (BE.lit false))]))
def wopensz_4 : VW := (VW.done ((BE.not (BE.le (IE.fn .u64 3 (AL.lst (LE.take (LE.rom 0) (IE.lit 0)) AL.nil)) (IE.lit 65536))) :: pcopensz_10) (some [(G.b (BE.lit true) (BE.lit false))]))
def wopensz_5 : VW := (VW.done ((BE.not (BE.eq (IE.fn .i64 5 (AL.lst (LE.take (LE.rom 0) (IE.lit 0)) AL.nil)) (IE.lit 0))) :: pcopensz_8) (some [(G.b (BE.lit true) (BE.lit false))]))
def wopensz_6 : VW := (VW.done ((BE.eq (IE.fn .i64 21 (AL.lst LE.nil AL.nil)) (IE.lit 110)) :: pcopensz_5) (some []))
def wopensz_7 : VW := (VW.done ((BE.not (BE.eq (IE.fn .i64 21 (AL.lst LE.nil AL.nil)) (IE.lit 110))) :: pcopensz_5) (some [(G.b (BE.lit true) (BE.lit false))]))
def wopensz_8 : VW := (VW.done ((BE.eq (IE.fn .i64 21 (AL.lst LE.nil AL.nil)) (IE.lit 3)) :: pcopensz_6) (some []))
def wopensz_9 : VW := (VW.done ((BE.not (BE.eq (IE.fn .i64 21 (AL.lst LE.nil AL.nil)) (IE.lit 3))) :: pcopensz_6) (some [(G.b (BE.lit true) (BE.lit false))]))
def wopensz_10 : VW := (VW.done ((BE.eq (IE.fn .i64 21 (AL.lst LE.nil AL.nil)) (IE.fn .i64 5 (AL.lst (LE.take (LE.rom 0) (IE.lit 0)) AL.nil))) :: pcopensz_4) (some []))
def wopensz_11 : VW := (VW.done ((BE.not (BE.eq (IE.fn .i64 21 (AL.lst LE.nil AL.nil)) (IE.fn .i64 5 (AL.lst (LE.take (LE.rom 0) (IE.lit 0)) AL.nil)))) :: pcopensz_4) (some [(G.b (BE.lit true) (BE.lit false))]))
def vwopensz : List VW := [wopensz_0, wopensz_1, wopensz_2, wopensz_3, wopensz_4, wopensz_5, wopensz_6, wopensz_7, wopensz_8, wopensz_9, wopensz_10, wopensz_11]
end
theorem vcopensz_0 : VD TTopensz (st0 cOpens0) wopensz_0 := by
  intro ρ kn hp
  have hF : ρ.z.F = oct.Φ := kn.F
  simp only [h_nil, h_cons, d_le, d_eq, d_not, d_var, d_lit, d_cel, d_leq, d_fn, d_and, d_iff, IE.den, LE.den, AL.den, lenV, true_and, and_true, pcopensz_9, pcopensz_7, pcopensz_1, pcopensz_0, hF, pi2, pi3, pi4, pi5, pi6, pi7, pi20, pl1, pi21, pi22, pl2, cE, cN, cV, cO, cM, sum_in, List.map_cons, List.map_nil, AV.cell, four_qs] at hp
  obtain ⟨p1, p2, p3, p4, p5, p6, p7, p8, p9⟩ := hp
  exfalso
  have e1 := rdE_nil
  have e2 := rdV_nil
  have e3 : (ρ.z.rl 0).take (0 : Int).toNat = [] := rfl
  have e4 := opE_a (L := []) (by rw [e1]; decide)
  try simp only [e3] at *
  omega
theorem vcopensz_1 : VD TTopensz (st0 cOpens0) wopensz_1 := by
  intro ρ kn hp
  have hF : ρ.z.F = oct.Φ := kn.F
  simp only [h_nil, h_cons, d_le, d_eq, d_not, d_var, d_lit, d_cel, d_leq, d_fn, d_and, d_iff, IE.den, LE.den, AL.den, lenV, true_and, and_true, pcopensz_9, pcopensz_7, pcopensz_1, pcopensz_0, hF, pi2, pi3, pi4, pi5, pi6, pi7, pi20, pl1, pi21, pi22, pl2, cE, cN, cV, cO, cM, sum_in, List.map_cons, List.map_nil, AV.cell, four_qs] at hp
  obtain ⟨p1, p2, p3, p4, p5, p6, p7, p8, p9⟩ := hp
  exfalso
  have e1 := rdE_nil
  have e2 := rdV_nil
  have e3 : (ρ.z.rl 0).take (0 : Int).toNat = [] := rfl
  have e4 := opE_a (L := []) (by rw [e1]; decide)
  try simp only [e3] at *
  omega
theorem vcopensz_2 : VD TTopensz (st0 cOpens0) wopensz_2 := by
  intro ρ kn hp
  have hF : ρ.z.F = oct.Φ := kn.F
  simp only [h_nil, h_cons, d_le, d_eq, d_not, d_var, d_lit, d_cel, d_leq, d_fn, d_and, d_iff, IE.den, LE.den, AL.den, lenV, true_and, and_true, pcopensz_7, pcopensz_1, pcopensz_0, hF, pi2, pi3, pi4, pi5, pi6, pi7, pi20, pl1, pi21, pi22, pl2, cE, cN, cV, cO, cM, sum_in, List.map_cons, List.map_nil, AV.cell, four_qs] at hp
  obtain ⟨p1, p2, p3, p4, p5, p6, p7, p8⟩ := hp
  exfalso
  have e1 := rdE_nil
  have e2 := rdV_nil
  have e3 : (ρ.z.rl 0).take (0 : Int).toNat = [] := rfl
  have e4 := opE_a (L := []) (by rw [e1]; decide)
  try simp only [e3] at *
  omega
theorem vcopensz_3 : VD TTopensz (st0 cOpens0) wopensz_3 := by
  intro ρ kn hp
  have hF : ρ.z.F = oct.Φ := kn.F
  simp only [h_nil, h_cons, d_le, d_eq, d_not, d_var, d_lit, d_cel, d_leq, d_fn, d_and, d_iff, IE.den, LE.den, AL.den, lenV, true_and, and_true, pcopensz_10, pcopensz_8, pcopensz_1, pcopensz_0, hF, pi2, pi3, pi4, pi5, pi6, pi7, pi20, pl1, pi21, pi22, pl2, cE, cN, cV, cO, cM, sum_in, List.map_cons, List.map_nil, AV.cell, four_qs] at hp
  obtain ⟨p1, p2, p3, p4, p5, p6, p7, p8, p9⟩ := hp
  exfalso
  have e1 := rdE_nil
  have e2 := rdV_nil
  have e3 : (ρ.z.rl 0).take (0 : Int).toNat = [] := rfl
  have e4 := opE_a (L := []) (by rw [e1]; decide)
  try simp only [e3] at *
  omega
theorem vcopensz_4 : VD TTopensz (st0 cOpens0) wopensz_4 := by
  intro ρ kn hp
  have hF : ρ.z.F = oct.Φ := kn.F
  simp only [h_nil, h_cons, d_le, d_eq, d_not, d_var, d_lit, d_cel, d_leq, d_fn, d_and, d_iff, IE.den, LE.den, AL.den, lenV, true_and, and_true, pcopensz_10, pcopensz_8, pcopensz_1, pcopensz_0, hF, pi2, pi3, pi4, pi5, pi6, pi7, pi20, pl1, pi21, pi22, pl2, cE, cN, cV, cO, cM, sum_in, List.map_cons, List.map_nil, AV.cell, four_qs] at hp
  obtain ⟨p1, p2, p3, p4, p5, p6, p7, p8, p9⟩ := hp
  exfalso
  have e1 := rdE_nil
  have e2 := rdV_nil
  have e3 : (ρ.z.rl 0).take (0 : Int).toNat = [] := rfl
  have e4 := opE_a (L := []) (by rw [e1]; decide)
  try simp only [e3] at *
  omega
theorem vcopensz_5 : VD TTopensz (st0 cOpens0) wopensz_5 := by
  intro ρ kn hp
  have hF : ρ.z.F = oct.Φ := kn.F
  simp only [h_nil, h_cons, d_le, d_eq, d_not, d_var, d_lit, d_cel, d_leq, d_fn, d_and, d_iff, IE.den, LE.den, AL.den, lenV, true_and, and_true, pcopensz_8, pcopensz_1, pcopensz_0, hF, pi2, pi3, pi4, pi5, pi6, pi7, pi20, pl1, pi21, pi22, pl2, cE, cN, cV, cO, cM, sum_in, List.map_cons, List.map_nil, AV.cell, four_qs] at hp
  obtain ⟨p1, p2, p3, p4, p5, p6, p7, p8⟩ := hp
  exfalso
  have e1 := rdE_nil
  have e2 := rdV_nil
  have e3 : (ρ.z.rl 0).take (0 : Int).toNat = [] := rfl
  have e4 := opE_a (L := []) (by rw [e1]; decide)
  try simp only [e3] at *
  omega
theorem vcopensz_6 : VD TTopensz (st0 cOpens0) wopensz_6 := by
  intro ρ kn hp
  exact all_nil
theorem vcopensz_7 : VD TTopensz (st0 cOpens0) wopensz_7 := by
  intro ρ kn hp
  have hF : ρ.z.F = oct.Φ := kn.F
  simp only [h_nil, h_cons, d_le, d_eq, d_not, d_var, d_lit, d_cel, d_leq, d_fn, d_and, d_iff, IE.den, LE.den, AL.den, lenV, true_and, and_true, pcopensz_5, pcopensz_3, pcopensz_2, pcopensz_0, hF, pi2, pi3, pi4, pi5, pi6, pi7, pi20, pl1, pi21, pi22, pl2, cE, cN, cV, cO, cM, sum_in, List.map_cons, List.map_nil, AV.cell, four_qs] at hp
  obtain ⟨p1, p2, p3, p4, p5, p6, p7⟩ := hp
  exfalso
  have e1 := rdE_nil
  have e2 := rdV_nil
  have e3 : (ρ.z.rl 0).take (0 : Int).toNat = [] := rfl
  have e4 := opE_a (L := []) (by rw [e1]; decide)
  try simp only [e3] at *
  omega
theorem vcopensz_8 : VD TTopensz (st0 cOpens0) wopensz_8 := by
  intro ρ kn hp
  exact all_nil
theorem vcopensz_9 : VD TTopensz (st0 cOpens0) wopensz_9 := by
  intro ρ kn hp
  have hF : ρ.z.F = oct.Φ := kn.F
  simp only [h_nil, h_cons, d_le, d_eq, d_not, d_var, d_lit, d_cel, d_leq, d_fn, d_and, d_iff, IE.den, LE.den, AL.den, lenV, true_and, and_true, pcopensz_6, pcopensz_3, pcopensz_2, pcopensz_0, hF, pi2, pi3, pi4, pi5, pi6, pi7, pi20, pl1, pi21, pi22, pl2, cE, cN, cV, cO, cM, sum_in, List.map_cons, List.map_nil, AV.cell, four_qs] at hp
  obtain ⟨p1, p2, p3, p4, p5, p6, p7⟩ := hp
  exfalso
  have e1 := rdE_nil
  have e2 := rdV_nil
  have e3 : (ρ.z.rl 0).take (0 : Int).toNat = [] := rfl
  have e4 := opE_a (L := []) (by rw [e1]; decide)
  try simp only [e3] at *
  omega
theorem vcopensz_10 : VD TTopensz (st0 cOpens0) wopensz_10 := by
  intro ρ kn hp
  exact all_nil
theorem vcopensz_11 : VD TTopensz (st0 cOpens0) wopensz_11 := by
  intro ρ kn hp
  have hF : ρ.z.F = oct.Φ := kn.F
  simp only [h_nil, h_cons, d_le, d_eq, d_not, d_var, d_lit, d_cel, d_leq, d_fn, d_and, d_iff, IE.den, LE.den, AL.den, lenV, true_and, and_true, pcopensz_4, pcopensz_2, pcopensz_0, hF, pi2, pi3, pi4, pi5, pi6, pi7, pi20, pl1, pi21, pi22, pl2, cE, cN, cV, cO, cM, sum_in, List.map_cons, List.map_nil, AV.cell, four_qs] at hp
  obtain ⟨p1, p2, p3, p4, p5, p6⟩ := hp
  exfalso
  have e1 := rdE_nil
  have e2 := rdV_nil
  have e3 : (ρ.z.rl 0).take (0 : Int).toNat = [] := rfl
  have e4 := opE_a (L := []) (by rw [e1]; decide)
  try simp only [e3] at *
  omega
theorem told_opensz : Sx.Told oct.Φ cOpens0 := told_vwM (cs := [cWorks, cRRead, cRSum, cOpenNo, cOpenZ, cOpenY]) (ms' := [mFill, mSum]) (all_cons told_works (all_cons told_rread (all_cons told_rsum (all_cons told_opno (all_cons told_opz (all_cons told_opy (all_nil))))))) (all_cons told_mfill (all_cons told_msum (all_nil))) 9000 vwopensz (by kernel_rfl) (by kernel_rfl) (by kernel_rfl) (post_nil rfl) (by kernel_rfl) (by kernel_rfl) (all_cons vcopensz_0 (all_cons vcopensz_1 (all_cons vcopensz_2 (all_cons vcopensz_3 (all_cons vcopensz_4 (all_cons vcopensz_5 (all_cons vcopensz_6 (all_cons vcopensz_7 (all_cons vcopensz_8 (all_cons vcopensz_9 (all_cons vcopensz_10 (all_cons vcopensz_11 (all_nil)))))))))))))
end Go.Proofs.Ythbnjmmkjpoahaa.oct
