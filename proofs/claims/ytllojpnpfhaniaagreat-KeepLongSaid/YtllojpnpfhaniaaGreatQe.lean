/- Layer octet: numbers, told. No condition. -/
import Derived.Test.YtllojpnpfhaniaaGreatQd
set_option linter.unusedVariables false
set_option linter.unusedSimpArgs false
set_option linter.deprecated false
namespace Go.Proofs.YtllojpnpfhaniaaGreat.oct
open Go Go.Proofs.YtllojpnpfhaniaaGreat.Sx
noncomputable section
abbrev TTnumber : Tab := T oct.Φ cNumber.roms []
def pcnumber_0 : List BE := [(BE.lit true)]
def pcnumber_1 : List BE := ((BE.le (IE.lit 128) (IE.var .u64 1)) :: pcnumber_0)
def pcnumber_2 : List BE := ((BE.le (IE.lit 16384) (IE.var .u64 1)) :: pcnumber_1)
def pcnumber_3 : List BE := ((BE.le (IE.lit 2097152) (IE.var .u64 1)) :: pcnumber_2)
def pcnumber_4 : List BE := ((BE.le (IE.lit 268435456) (IE.var .u64 1)) :: pcnumber_3)
def pcnumber_5 : List BE := ((BE.le (IE.lit 34359738368) (IE.var .u64 1)) :: pcnumber_4)
def pcnumber_6 : List BE := ((BE.le (IE.lit 4398046511104) (IE.var .u64 1)) :: pcnumber_5)
def pcnumber_7 : List BE := ((BE.le (IE.lit 562949953421312) (IE.var .u64 1)) :: pcnumber_6)
def pcnumber_8 : List BE := ((BE.le (IE.lit 72057594037927936) (IE.var .u64 1)) :: pcnumber_7)
def wnumber_0 : VW := (VW.done ((BE.le (IE.lit 9223372036854775808) (IE.var .u64 1)) :: pcnumber_8) (some [(G.i (IE.len (LE.fn 1 (AL.int .u64 (IE.var .u64 1) AL.nil))) (IE.lit 10)), (G.i (IE.len (LE.fn 1 (AL.int .u64 (IE.var .u64 1) AL.nil))) (IE.lit 10)), (G.l (LE.fn 1 (AL.int .u64 (IE.var .u64 1) AL.nil)) (LE.cat (LE.cat (LE.cat (LE.cat (LE.cat (LE.cat (LE.cat (LE.cat (LE.cat (LE.one (AL.int .u8 (IE.bin BinOp.or .u8 (IE.wrap .u8 (IE.var .u64 1)) (IE.lit 128)) AL.nil)) (LE.one (AL.int .u8 (IE.bin BinOp.or .u8 (IE.wrap .u8 (IE.bin BinOp.shr .u64 (IE.var .u64 1) (IE.lit 7))) (IE.lit 128)) AL.nil))) (LE.one (AL.int .u8 (IE.bin BinOp.or .u8 (IE.wrap .u8 (IE.bin BinOp.shr .u64 (IE.bin BinOp.shr .u64 (IE.var .u64 1) (IE.lit 7)) (IE.lit 7))) (IE.lit 128)) AL.nil))) (LE.one (AL.int .u8 (IE.bin BinOp.or .u8 (IE.wrap .u8 (IE.bin BinOp.shr .u64 (IE.bin BinOp.shr .u64 (IE.bin BinOp.shr .u64 (IE.var .u64 1) (IE.lit 7)) (IE.lit 7)) (IE.lit 7))) (IE.lit 128)) AL.nil))) (LE.one (AL.int .u8 (IE.bin BinOp.or .u8 (IE.wrap .u8 (IE.bin BinOp.shr .u64 (IE.bin BinOp.shr .u64 (IE.bin BinOp.shr .u64 (IE.bin BinOp.shr .u64 (IE.var .u64 1) (IE.lit 7)) (IE.lit 7)) (IE.lit 7)) (IE.lit 7))) (IE.lit 128)) AL.nil))) (LE.one (AL.int .u8 (IE.bin BinOp.or .u8 (IE.wrap .u8 (IE.bin BinOp.shr .u64 (IE.bin BinOp.shr .u64 (IE.bin BinOp.shr .u64 (IE.bin BinOp.shr .u64 (IE.bin BinOp.shr .u64 (IE.var .u64 1) (IE.lit 7)) (IE.lit 7)) (IE.lit 7)) (IE.lit 7)) (IE.lit 7))) (IE.lit 128)) AL.nil))) (LE.one (AL.int .u8 (IE.bin BinOp.or .u8 (IE.wrap .u8 (IE.bin BinOp.shr .u64 (IE.bin BinOp.shr .u64 (IE.bin BinOp.shr .u64 (IE.bin BinOp.shr .u64 (IE.bin BinOp.shr .u64 (IE.bin BinOp.shr .u64 (IE.var .u64 1) (IE.lit 7)) (IE.lit 7)) (IE.lit 7)) (IE.lit 7)) (IE.lit 7)) (IE.lit 7))) (IE.lit 128)) AL.nil))) (LE.one (AL.int .u8 (IE.bin BinOp.or .u8 (IE.wrap .u8 (IE.bin BinOp.shr .u64 (IE.bin BinOp.shr .u64 (IE.bin BinOp.shr .u64 (IE.bin BinOp.shr .u64 (IE.bin BinOp.shr .u64 (IE.bin BinOp.shr .u64 (IE.bin BinOp.shr .u64 (IE.var .u64 1) (IE.lit 7)) (IE.lit 7)) (IE.lit 7)) (IE.lit 7)) (IE.lit 7)) (IE.lit 7)) (IE.lit 7))) (IE.lit 128)) AL.nil))) (LE.one (AL.int .u8 (IE.bin BinOp.or .u8 (IE.wrap .u8 (IE.bin BinOp.shr .u64 (IE.bin BinOp.shr .u64 (IE.bin BinOp.shr .u64 (IE.bin BinOp.shr .u64 (IE.bin BinOp.shr .u64 (IE.bin BinOp.shr .u64 (IE.bin BinOp.shr .u64 (IE.bin BinOp.shr .u64 (IE.var .u64 1) (IE.lit 7)) (IE.lit 7)) (IE.lit 7)) (IE.lit 7)) (IE.lit 7)) (IE.lit 7)) (IE.lit 7)) (IE.lit 7))) (IE.lit 128)) AL.nil))) (LE.one (AL.int .u8 (IE.wrap .u8 (IE.bin BinOp.shr .u64 (IE.bin BinOp.shr .u64 (IE.bin BinOp.shr .u64 (IE.bin BinOp.shr .u64 (IE.bin BinOp.shr .u64 (IE.bin BinOp.shr .u64 (IE.bin BinOp.shr .u64 (IE.bin BinOp.shr .u64 (IE.bin BinOp.shr .u64 (IE.var .u64 1) (IE.lit 7)) (IE.lit 7)) (IE.lit 7)) (IE.lit 7)) (IE.lit 7)) (IE.lit 7)) (IE.lit 7)) (IE.lit 7)) (IE.lit 7))) AL.nil)))), (G.i (IE.len (LE.fn 1 (AL.int .u64 (IE.var .u64 1) AL.nil))) (IE.lit 10))]))
def wnumber_1 : VW := (VW.done ((BE.not (BE.le (IE.lit 9223372036854775808) (IE.var .u64 1))) :: pcnumber_8) (some [(G.i (IE.len (LE.fn 1 (AL.int .u64 (IE.var .u64 1) AL.nil))) (IE.lit 9)), (G.i (IE.len (LE.fn 1 (AL.int .u64 (IE.var .u64 1) AL.nil))) (IE.lit 9)), (G.l (LE.fn 1 (AL.int .u64 (IE.var .u64 1) AL.nil)) (LE.cat (LE.cat (LE.cat (LE.cat (LE.cat (LE.cat (LE.cat (LE.cat (LE.one (AL.int .u8 (IE.bin BinOp.or .u8 (IE.wrap .u8 (IE.var .u64 1)) (IE.lit 128)) AL.nil)) (LE.one (AL.int .u8 (IE.bin BinOp.or .u8 (IE.wrap .u8 (IE.bin BinOp.shr .u64 (IE.var .u64 1) (IE.lit 7))) (IE.lit 128)) AL.nil))) (LE.one (AL.int .u8 (IE.bin BinOp.or .u8 (IE.wrap .u8 (IE.bin BinOp.shr .u64 (IE.bin BinOp.shr .u64 (IE.var .u64 1) (IE.lit 7)) (IE.lit 7))) (IE.lit 128)) AL.nil))) (LE.one (AL.int .u8 (IE.bin BinOp.or .u8 (IE.wrap .u8 (IE.bin BinOp.shr .u64 (IE.bin BinOp.shr .u64 (IE.bin BinOp.shr .u64 (IE.var .u64 1) (IE.lit 7)) (IE.lit 7)) (IE.lit 7))) (IE.lit 128)) AL.nil))) (LE.one (AL.int .u8 (IE.bin BinOp.or .u8 (IE.wrap .u8 (IE.bin BinOp.shr .u64 (IE.bin BinOp.shr .u64 (IE.bin BinOp.shr .u64 (IE.bin BinOp.shr .u64 (IE.var .u64 1) (IE.lit 7)) (IE.lit 7)) (IE.lit 7)) (IE.lit 7))) (IE.lit 128)) AL.nil))) (LE.one (AL.int .u8 (IE.bin BinOp.or .u8 (IE.wrap .u8 (IE.bin BinOp.shr .u64 (IE.bin BinOp.shr .u64 (IE.bin BinOp.shr .u64 (IE.bin BinOp.shr .u64 (IE.bin BinOp.shr .u64 (IE.var .u64 1) (IE.lit 7)) (IE.lit 7)) (IE.lit 7)) (IE.lit 7)) (IE.lit 7))) (IE.lit 128)) AL.nil))) (LE.one (AL.int .u8 (IE.bin BinOp.or .u8 (IE.wrap .u8 (IE.bin BinOp.shr .u64 (IE.bin BinOp.shr .u64 (IE.bin BinOp.shr .u64 (IE.bin BinOp.shr .u64 (IE.bin BinOp.shr .u64 (IE.bin BinOp.shr .u64 (IE.var .u64 1) (IE.lit 7)) (IE.lit 7)) (IE.lit 7)) (IE.lit 7)) (IE.lit 7)) (IE.lit 7))) (IE.lit 128)) AL.nil))) (LE.one (AL.int .u8 (IE.bin BinOp.or .u8 (IE.wrap .u8 (IE.bin BinOp.shr .u64 (IE.bin BinOp.shr .u64 (IE.bin BinOp.shr .u64 (IE.bin BinOp.shr .u64 (IE.bin BinOp.shr .u64 (IE.bin BinOp.shr .u64 (IE.bin BinOp.shr .u64 (IE.var .u64 1) (IE.lit 7)) (IE.lit 7)) (IE.lit 7)) (IE.lit 7)) (IE.lit 7)) (IE.lit 7)) (IE.lit 7))) (IE.lit 128)) AL.nil))) (LE.one (AL.int .u8 (IE.wrap .u8 (IE.bin BinOp.shr .u64 (IE.bin BinOp.shr .u64 (IE.bin BinOp.shr .u64 (IE.bin BinOp.shr .u64 (IE.bin BinOp.shr .u64 (IE.bin BinOp.shr .u64 (IE.bin BinOp.shr .u64 (IE.bin BinOp.shr .u64 (IE.var .u64 1) (IE.lit 7)) (IE.lit 7)) (IE.lit 7)) (IE.lit 7)) (IE.lit 7)) (IE.lit 7)) (IE.lit 7)) (IE.lit 7))) AL.nil)))), (G.i (IE.len (LE.fn 1 (AL.int .u64 (IE.var .u64 1) AL.nil))) (IE.lit 9))]))
def wnumber_2 : VW := (VW.done ((BE.not (BE.le (IE.lit 72057594037927936) (IE.var .u64 1))) :: pcnumber_7) (some [(G.i (IE.len (LE.fn 1 (AL.int .u64 (IE.var .u64 1) AL.nil))) (IE.lit 8)), (G.i (IE.len (LE.fn 1 (AL.int .u64 (IE.var .u64 1) AL.nil))) (IE.lit 8)), (G.l (LE.fn 1 (AL.int .u64 (IE.var .u64 1) AL.nil)) (LE.cat (LE.cat (LE.cat (LE.cat (LE.cat (LE.cat (LE.cat (LE.one (AL.int .u8 (IE.bin BinOp.or .u8 (IE.wrap .u8 (IE.var .u64 1)) (IE.lit 128)) AL.nil)) (LE.one (AL.int .u8 (IE.bin BinOp.or .u8 (IE.wrap .u8 (IE.bin BinOp.shr .u64 (IE.var .u64 1) (IE.lit 7))) (IE.lit 128)) AL.nil))) (LE.one (AL.int .u8 (IE.bin BinOp.or .u8 (IE.wrap .u8 (IE.bin BinOp.shr .u64 (IE.bin BinOp.shr .u64 (IE.var .u64 1) (IE.lit 7)) (IE.lit 7))) (IE.lit 128)) AL.nil))) (LE.one (AL.int .u8 (IE.bin BinOp.or .u8 (IE.wrap .u8 (IE.bin BinOp.shr .u64 (IE.bin BinOp.shr .u64 (IE.bin BinOp.shr .u64 (IE.var .u64 1) (IE.lit 7)) (IE.lit 7)) (IE.lit 7))) (IE.lit 128)) AL.nil))) (LE.one (AL.int .u8 (IE.bin BinOp.or .u8 (IE.wrap .u8 (IE.bin BinOp.shr .u64 (IE.bin BinOp.shr .u64 (IE.bin BinOp.shr .u64 (IE.bin BinOp.shr .u64 (IE.var .u64 1) (IE.lit 7)) (IE.lit 7)) (IE.lit 7)) (IE.lit 7))) (IE.lit 128)) AL.nil))) (LE.one (AL.int .u8 (IE.bin BinOp.or .u8 (IE.wrap .u8 (IE.bin BinOp.shr .u64 (IE.bin BinOp.shr .u64 (IE.bin BinOp.shr .u64 (IE.bin BinOp.shr .u64 (IE.bin BinOp.shr .u64 (IE.var .u64 1) (IE.lit 7)) (IE.lit 7)) (IE.lit 7)) (IE.lit 7)) (IE.lit 7))) (IE.lit 128)) AL.nil))) (LE.one (AL.int .u8 (IE.bin BinOp.or .u8 (IE.wrap .u8 (IE.bin BinOp.shr .u64 (IE.bin BinOp.shr .u64 (IE.bin BinOp.shr .u64 (IE.bin BinOp.shr .u64 (IE.bin BinOp.shr .u64 (IE.bin BinOp.shr .u64 (IE.var .u64 1) (IE.lit 7)) (IE.lit 7)) (IE.lit 7)) (IE.lit 7)) (IE.lit 7)) (IE.lit 7))) (IE.lit 128)) AL.nil))) (LE.one (AL.int .u8 (IE.wrap .u8 (IE.bin BinOp.shr .u64 (IE.bin BinOp.shr .u64 (IE.bin BinOp.shr .u64 (IE.bin BinOp.shr .u64 (IE.bin BinOp.shr .u64 (IE.bin BinOp.shr .u64 (IE.bin BinOp.shr .u64 (IE.var .u64 1) (IE.lit 7)) (IE.lit 7)) (IE.lit 7)) (IE.lit 7)) (IE.lit 7)) (IE.lit 7)) (IE.lit 7))) AL.nil)))), (G.i (IE.len (LE.fn 1 (AL.int .u64 (IE.var .u64 1) AL.nil))) (IE.lit 8))]))
def wnumber_3 : VW := (VW.done ((BE.not (BE.le (IE.lit 562949953421312) (IE.var .u64 1))) :: pcnumber_6) (some [(G.i (IE.len (LE.fn 1 (AL.int .u64 (IE.var .u64 1) AL.nil))) (IE.lit 7)), (G.i (IE.len (LE.fn 1 (AL.int .u64 (IE.var .u64 1) AL.nil))) (IE.lit 7)), (G.l (LE.fn 1 (AL.int .u64 (IE.var .u64 1) AL.nil)) (LE.cat (LE.cat (LE.cat (LE.cat (LE.cat (LE.cat (LE.one (AL.int .u8 (IE.bin BinOp.or .u8 (IE.wrap .u8 (IE.var .u64 1)) (IE.lit 128)) AL.nil)) (LE.one (AL.int .u8 (IE.bin BinOp.or .u8 (IE.wrap .u8 (IE.bin BinOp.shr .u64 (IE.var .u64 1) (IE.lit 7))) (IE.lit 128)) AL.nil))) (LE.one (AL.int .u8 (IE.bin BinOp.or .u8 (IE.wrap .u8 (IE.bin BinOp.shr .u64 (IE.bin BinOp.shr .u64 (IE.var .u64 1) (IE.lit 7)) (IE.lit 7))) (IE.lit 128)) AL.nil))) (LE.one (AL.int .u8 (IE.bin BinOp.or .u8 (IE.wrap .u8 (IE.bin BinOp.shr .u64 (IE.bin BinOp.shr .u64 (IE.bin BinOp.shr .u64 (IE.var .u64 1) (IE.lit 7)) (IE.lit 7)) (IE.lit 7))) (IE.lit 128)) AL.nil))) (LE.one (AL.int .u8 (IE.bin BinOp.or .u8 (IE.wrap .u8 (IE.bin BinOp.shr .u64 (IE.bin BinOp.shr .u64 (IE.bin BinOp.shr .u64 (IE.bin BinOp.shr .u64 (IE.var .u64 1) (IE.lit 7)) (IE.lit 7)) (IE.lit 7)) (IE.lit 7))) (IE.lit 128)) AL.nil))) (LE.one (AL.int .u8 (IE.bin BinOp.or .u8 (IE.wrap .u8 (IE.bin BinOp.shr .u64 (IE.bin BinOp.shr .u64 (IE.bin BinOp.shr .u64 (IE.bin BinOp.shr .u64 (IE.bin BinOp.shr .u64 (IE.var .u64 1) (IE.lit 7)) (IE.lit 7)) (IE.lit 7)) (IE.lit 7)) (IE.lit 7))) (IE.lit 128)) AL.nil))) (LE.one (AL.int .u8 (IE.wrap .u8 (IE.bin BinOp.shr .u64 (IE.bin BinOp.shr .u64 (IE.bin BinOp.shr .u64 (IE.bin BinOp.shr .u64 (IE.bin BinOp.shr .u64 (IE.bin BinOp.shr .u64 (IE.var .u64 1) (IE.lit 7)) (IE.lit 7)) (IE.lit 7)) (IE.lit 7)) (IE.lit 7)) (IE.lit 7))) AL.nil)))), (G.i (IE.len (LE.fn 1 (AL.int .u64 (IE.var .u64 1) AL.nil))) (IE.lit 7))]))
def wnumber_4 : VW := (VW.done ((BE.not (BE.le (IE.lit 4398046511104) (IE.var .u64 1))) :: pcnumber_5) (some [(G.i (IE.len (LE.fn 1 (AL.int .u64 (IE.var .u64 1) AL.nil))) (IE.lit 6)), (G.i (IE.len (LE.fn 1 (AL.int .u64 (IE.var .u64 1) AL.nil))) (IE.lit 6)), (G.l (LE.fn 1 (AL.int .u64 (IE.var .u64 1) AL.nil)) (LE.cat (LE.cat (LE.cat (LE.cat (LE.cat (LE.one (AL.int .u8 (IE.bin BinOp.or .u8 (IE.wrap .u8 (IE.var .u64 1)) (IE.lit 128)) AL.nil)) (LE.one (AL.int .u8 (IE.bin BinOp.or .u8 (IE.wrap .u8 (IE.bin BinOp.shr .u64 (IE.var .u64 1) (IE.lit 7))) (IE.lit 128)) AL.nil))) (LE.one (AL.int .u8 (IE.bin BinOp.or .u8 (IE.wrap .u8 (IE.bin BinOp.shr .u64 (IE.bin BinOp.shr .u64 (IE.var .u64 1) (IE.lit 7)) (IE.lit 7))) (IE.lit 128)) AL.nil))) (LE.one (AL.int .u8 (IE.bin BinOp.or .u8 (IE.wrap .u8 (IE.bin BinOp.shr .u64 (IE.bin BinOp.shr .u64 (IE.bin BinOp.shr .u64 (IE.var .u64 1) (IE.lit 7)) (IE.lit 7)) (IE.lit 7))) (IE.lit 128)) AL.nil))) (LE.one (AL.int .u8 (IE.bin BinOp.or .u8 (IE.wrap .u8 (IE.bin BinOp.shr .u64 (IE.bin BinOp.shr .u64 (IE.bin BinOp.shr .u64 (IE.bin BinOp.shr .u64 (IE.var .u64 1) (IE.lit 7)) (IE.lit 7)) (IE.lit 7)) (IE.lit 7))) (IE.lit 128)) AL.nil))) (LE.one (AL.int .u8 (IE.wrap .u8 (IE.bin BinOp.shr .u64 (IE.bin BinOp.shr .u64 (IE.bin BinOp.shr .u64 (IE.bin BinOp.shr .u64 (IE.bin BinOp.shr .u64 (IE.var .u64 1) (IE.lit 7)) (IE.lit 7)) (IE.lit 7)) (IE.lit 7)) (IE.lit 7))) AL.nil)))), (G.i (IE.len (LE.fn 1 (AL.int .u64 (IE.var .u64 1) AL.nil))) (IE.lit 6))]))
def wnumber_5 : VW := (VW.done ((BE.not (BE.le (IE.lit 34359738368) (IE.var .u64 1))) :: pcnumber_4) (some [(G.i (IE.len (LE.fn 1 (AL.int .u64 (IE.var .u64 1) AL.nil))) (IE.lit 5)), (G.i (IE.len (LE.fn 1 (AL.int .u64 (IE.var .u64 1) AL.nil))) (IE.lit 5)), (G.l (LE.fn 1 (AL.int .u64 (IE.var .u64 1) AL.nil)) (LE.cat (LE.cat (LE.cat (LE.cat (LE.one (AL.int .u8 (IE.bin BinOp.or .u8 (IE.wrap .u8 (IE.var .u64 1)) (IE.lit 128)) AL.nil)) (LE.one (AL.int .u8 (IE.bin BinOp.or .u8 (IE.wrap .u8 (IE.bin BinOp.shr .u64 (IE.var .u64 1) (IE.lit 7))) (IE.lit 128)) AL.nil))) (LE.one (AL.int .u8 (IE.bin BinOp.or .u8 (IE.wrap .u8 (IE.bin BinOp.shr .u64 (IE.bin BinOp.shr .u64 (IE.var .u64 1) (IE.lit 7)) (IE.lit 7))) (IE.lit 128)) AL.nil))) (LE.one (AL.int .u8 (IE.bin BinOp.or .u8 (IE.wrap .u8 (IE.bin BinOp.shr .u64 (IE.bin BinOp.shr .u64 (IE.bin BinOp.shr .u64 (IE.var .u64 1) (IE.lit 7)) (IE.lit 7)) (IE.lit 7))) (IE.lit 128)) AL.nil))) (LE.one (AL.int .u8 (IE.wrap .u8 (IE.bin BinOp.shr .u64 (IE.bin BinOp.shr .u64 (IE.bin BinOp.shr .u64 (IE.bin BinOp.shr .u64 (IE.var .u64 1) (IE.lit 7)) (IE.lit 7)) (IE.lit 7)) (IE.lit 7))) AL.nil)))), (G.i (IE.len (LE.fn 1 (AL.int .u64 (IE.var .u64 1) AL.nil))) (IE.lit 5))]))
def wnumber_6 : VW := (VW.done ((BE.not (BE.le (IE.lit 268435456) (IE.var .u64 1))) :: pcnumber_3) (some [(G.i (IE.len (LE.fn 1 (AL.int .u64 (IE.var .u64 1) AL.nil))) (IE.lit 4)), (G.i (IE.len (LE.fn 1 (AL.int .u64 (IE.var .u64 1) AL.nil))) (IE.lit 4)), (G.l (LE.fn 1 (AL.int .u64 (IE.var .u64 1) AL.nil)) (LE.cat (LE.cat (LE.cat (LE.one (AL.int .u8 (IE.bin BinOp.or .u8 (IE.wrap .u8 (IE.var .u64 1)) (IE.lit 128)) AL.nil)) (LE.one (AL.int .u8 (IE.bin BinOp.or .u8 (IE.wrap .u8 (IE.bin BinOp.shr .u64 (IE.var .u64 1) (IE.lit 7))) (IE.lit 128)) AL.nil))) (LE.one (AL.int .u8 (IE.bin BinOp.or .u8 (IE.wrap .u8 (IE.bin BinOp.shr .u64 (IE.bin BinOp.shr .u64 (IE.var .u64 1) (IE.lit 7)) (IE.lit 7))) (IE.lit 128)) AL.nil))) (LE.one (AL.int .u8 (IE.wrap .u8 (IE.bin BinOp.shr .u64 (IE.bin BinOp.shr .u64 (IE.bin BinOp.shr .u64 (IE.var .u64 1) (IE.lit 7)) (IE.lit 7)) (IE.lit 7))) AL.nil)))), (G.i (IE.len (LE.fn 1 (AL.int .u64 (IE.var .u64 1) AL.nil))) (IE.lit 4))]))
def wnumber_7 : VW := (VW.done ((BE.not (BE.le (IE.lit 2097152) (IE.var .u64 1))) :: pcnumber_2) (some [(G.i (IE.len (LE.fn 1 (AL.int .u64 (IE.var .u64 1) AL.nil))) (IE.lit 3)), (G.i (IE.len (LE.fn 1 (AL.int .u64 (IE.var .u64 1) AL.nil))) (IE.lit 3)), (G.l (LE.fn 1 (AL.int .u64 (IE.var .u64 1) AL.nil)) (LE.cat (LE.cat (LE.one (AL.int .u8 (IE.bin BinOp.or .u8 (IE.wrap .u8 (IE.var .u64 1)) (IE.lit 128)) AL.nil)) (LE.one (AL.int .u8 (IE.bin BinOp.or .u8 (IE.wrap .u8 (IE.bin BinOp.shr .u64 (IE.var .u64 1) (IE.lit 7))) (IE.lit 128)) AL.nil))) (LE.one (AL.int .u8 (IE.wrap .u8 (IE.bin BinOp.shr .u64 (IE.bin BinOp.shr .u64 (IE.var .u64 1) (IE.lit 7)) (IE.lit 7))) AL.nil)))), (G.i (IE.len (LE.fn 1 (AL.int .u64 (IE.var .u64 1) AL.nil))) (IE.lit 3))]))
def wnumber_8 : VW := (VW.done ((BE.not (BE.le (IE.lit 16384) (IE.var .u64 1))) :: pcnumber_1) (some [(G.i (IE.len (LE.fn 1 (AL.int .u64 (IE.var .u64 1) AL.nil))) (IE.lit 2)), (G.i (IE.len (LE.fn 1 (AL.int .u64 (IE.var .u64 1) AL.nil))) (IE.lit 2)), (G.l (LE.fn 1 (AL.int .u64 (IE.var .u64 1) AL.nil)) (LE.cat (LE.one (AL.int .u8 (IE.bin BinOp.or .u8 (IE.wrap .u8 (IE.var .u64 1)) (IE.lit 128)) AL.nil)) (LE.one (AL.int .u8 (IE.wrap .u8 (IE.bin BinOp.shr .u64 (IE.var .u64 1) (IE.lit 7))) AL.nil)))), (G.i (IE.len (LE.fn 1 (AL.int .u64 (IE.var .u64 1) AL.nil))) (IE.lit 2))]))
def wnumber_9 : VW := (VW.done ((BE.not (BE.le (IE.lit 128) (IE.var .u64 1))) :: pcnumber_0) (some [(G.i (IE.len (LE.fn 1 (AL.int .u64 (IE.var .u64 1) AL.nil))) (IE.lit 1)), (G.i (IE.len (LE.fn 1 (AL.int .u64 (IE.var .u64 1) AL.nil))) (IE.lit 1)), (G.l (LE.fn 1 (AL.int .u64 (IE.var .u64 1) AL.nil)) (LE.one (AL.int .u8 (IE.var .u64 1) AL.nil))), (G.i (IE.len (LE.fn 1 (AL.int .u64 (IE.var .u64 1) AL.nil))) (IE.lit 1))]))
def vwnumber : List VW := [wnumber_0, wnumber_1, wnumber_2, wnumber_3, wnumber_4, wnumber_5, wnumber_6, wnumber_7, wnumber_8, wnumber_9]
end
theorem vcnumber_0 : VD TTnumber (st0 cNumber) wnumber_0 := by
 intro ρ kn hp
 have hF : ρ.z.F = oct.Φ := kn.F
 simp only [h_nil, h_cons, d_le, d_eq, d_not, d_var, d_lit, d_cel, d_leq, d_fn, d_and, d_iff, IE.den, LE.den, AL.den, lenV, true_and, and_true, pcnumber_8, pcnumber_7, pcnumber_6, pcnumber_5, pcnumber_4, pcnumber_3, pcnumber_2, pcnumber_1, pcnumber_0, hF, pi2, pi3, pi4, pi5, pi6, pi7, pi20, pl1] at hp
 obtain ⟨p1, p2, p3, p4, p5, p6, p7, p8, p9⟩ := hp
 refine all_cons (show (((ρ.z.F.l 1 [.int .u64 (ρ.i .u64 1)]).length : Nat) : Int) = (10 : Int) from ?_) (all_cons (show (((ρ.z.F.l 1 [.int .u64 (ρ.i .u64 1)]).length : Nat) : Int) = (10 : Int) from ?_) (all_cons (show (ρ.z.F.l 1 [.int .u64 (ρ.i .u64 1)]) = (((((((((([[Go.Value.int .u8 (binI BinOp.or .u8 (IntKind.wrap .u8 (ρ.i .u64 1)) (128 : Int))]] : LV) ++ ([[Go.Value.int .u8 (binI BinOp.or .u8 (IntKind.wrap .u8 (binI BinOp.shr .u64 (ρ.i .u64 1) (7 : Int))) (128 : Int))]] : LV)) ++ ([[Go.Value.int .u8 (binI BinOp.or .u8 (IntKind.wrap .u8 (binI BinOp.shr .u64 (binI BinOp.shr .u64 (ρ.i .u64 1) (7 : Int)) (7 : Int))) (128 : Int))]] : LV)) ++ ([[Go.Value.int .u8 (binI BinOp.or .u8 (IntKind.wrap .u8 (binI BinOp.shr .u64 (binI BinOp.shr .u64 (binI BinOp.shr .u64 (ρ.i .u64 1) (7 : Int)) (7 : Int)) (7 : Int))) (128 : Int))]] : LV)) ++ ([[Go.Value.int .u8 (binI BinOp.or .u8 (IntKind.wrap .u8 (binI BinOp.shr .u64 (binI BinOp.shr .u64 (binI BinOp.shr .u64 (binI BinOp.shr .u64 (ρ.i .u64 1) (7 : Int)) (7 : Int)) (7 : Int)) (7 : Int))) (128 : Int))]] : LV)) ++ ([[Go.Value.int .u8 (binI BinOp.or .u8 (IntKind.wrap .u8 (binI BinOp.shr .u64 (binI BinOp.shr .u64 (binI BinOp.shr .u64 (binI BinOp.shr .u64 (binI BinOp.shr .u64 (ρ.i .u64 1) (7 : Int)) (7 : Int)) (7 : Int)) (7 : Int)) (7 : Int))) (128 : Int))]] : LV)) ++ ([[Go.Value.int .u8 (binI BinOp.or .u8 (IntKind.wrap .u8 (binI BinOp.shr .u64 (binI BinOp.shr .u64 (binI BinOp.shr .u64 (binI BinOp.shr .u64 (binI BinOp.shr .u64 (binI BinOp.shr .u64 (ρ.i .u64 1) (7 : Int)) (7 : Int)) (7 : Int)) (7 : Int)) (7 : Int)) (7 : Int))) (128 : Int))]] : LV)) ++ ([[Go.Value.int .u8 (binI BinOp.or .u8 (IntKind.wrap .u8 (binI BinOp.shr .u64 (binI BinOp.shr .u64 (binI BinOp.shr .u64 (binI BinOp.shr .u64 (binI BinOp.shr .u64 (binI BinOp.shr .u64 (binI BinOp.shr .u64 (ρ.i .u64 1) (7 : Int)) (7 : Int)) (7 : Int)) (7 : Int)) (7 : Int)) (7 : Int)) (7 : Int))) (128 : Int))]] : LV)) ++ ([[Go.Value.int .u8 (binI BinOp.or .u8 (IntKind.wrap .u8 (binI BinOp.shr .u64 (binI BinOp.shr .u64 (binI BinOp.shr .u64 (binI BinOp.shr .u64 (binI BinOp.shr .u64 (binI BinOp.shr .u64 (binI BinOp.shr .u64 (binI BinOp.shr .u64 (ρ.i .u64 1) (7 : Int)) (7 : Int)) (7 : Int)) (7 : Int)) (7 : Int)) (7 : Int)) (7 : Int)) (7 : Int))) (128 : Int))]] : LV)) ++ ([[Go.Value.int .u8 (IntKind.wrap .u8 (binI BinOp.shr .u64 (binI BinOp.shr .u64 (binI BinOp.shr .u64 (binI BinOp.shr .u64 (binI BinOp.shr .u64 (binI BinOp.shr .u64 (binI BinOp.shr .u64 (binI BinOp.shr .u64 (binI BinOp.shr .u64 (ρ.i .u64 1) (7 : Int)) (7 : Int)) (7 : Int)) (7 : Int)) (7 : Int)) (7 : Int)) (7 : Int)) (7 : Int)) (7 : Int)))]] : LV)) from ?_) (all_cons (show (((ρ.z.F.l 1 [.int .u64 (ρ.i .u64 1)]).length : Nat) : Int) = (10 : Int) from ?_) (all_nil))))
 all_goals try simp only [hF, pi2, pi3, pi4, pi5, pi6, pi7, pi20, pl1]
 all_goals
  have hc := u64_in (u64_rng kn.ok 1)
  have hr := u64_rng kn.ok 1
  simp only [pl1, hc]
  generalize ρ.i .u64 1 = n at *
  rw [show numL n = rowB (numF 9 n) from rfl]
  rw [numF_up (f := 8) (n := n) (by omega)]
  rw [numF_up (f := 7) (n := n / 128) (by omega)]
  rw [numF_up (f := 6) (n := (n / 128) / 128) (by omega)]
  rw [numF_up (f := 5) (n := ((n / 128) / 128) / 128) (by omega)]
  rw [numF_up (f := 4) (n := (((n / 128) / 128) / 128) / 128) (by omega)]
  rw [numF_up (f := 3) (n := ((((n / 128) / 128) / 128) / 128) / 128) (by omega)]
  rw [numF_up (f := 2) (n := (((((n / 128) / 128) / 128) / 128) / 128) / 128) (by omega)]
  rw [numF_up (f := 1) (n := ((((((n / 128) / 128) / 128) / 128) / 128) / 128) / 128) (by omega)]
  rw [numF_up (f := 0) (n := (((((((n / 128) / 128) / 128) / 128) / 128) / 128) / 128) / 128) (by omega)]
  rw [numF_end (n := ((((((((n / 128) / 128) / 128) / 128) / 128) / 128) / 128) / 128) / 128) (by omega)]
  first
   | rfl
   | (simp (disch := omega) only [shr7, or_low, rowB_cons, rowB_one]; try simp (disch := omega) only [wrap_low]; first | rfl | done | simp only [List.append_assoc])
theorem vcnumber_1 : VD TTnumber (st0 cNumber) wnumber_1 := by
 intro ρ kn hp
 have hF : ρ.z.F = oct.Φ := kn.F
 simp only [h_nil, h_cons, d_le, d_eq, d_not, d_var, d_lit, d_cel, d_leq, d_fn, d_and, d_iff, IE.den, LE.den, AL.den, lenV, true_and, and_true, pcnumber_8, pcnumber_7, pcnumber_6, pcnumber_5, pcnumber_4, pcnumber_3, pcnumber_2, pcnumber_1, pcnumber_0, hF, pi2, pi3, pi4, pi5, pi6, pi7, pi20, pl1] at hp
 obtain ⟨p1, p2, p3, p4, p5, p6, p7, p8, p9⟩ := hp
 refine all_cons (show (((ρ.z.F.l 1 [.int .u64 (ρ.i .u64 1)]).length : Nat) : Int) = (9 : Int) from ?_) (all_cons (show (((ρ.z.F.l 1 [.int .u64 (ρ.i .u64 1)]).length : Nat) : Int) = (9 : Int) from ?_) (all_cons (show (ρ.z.F.l 1 [.int .u64 (ρ.i .u64 1)]) = ((((((((([[Go.Value.int .u8 (binI BinOp.or .u8 (IntKind.wrap .u8 (ρ.i .u64 1)) (128 : Int))]] : LV) ++ ([[Go.Value.int .u8 (binI BinOp.or .u8 (IntKind.wrap .u8 (binI BinOp.shr .u64 (ρ.i .u64 1) (7 : Int))) (128 : Int))]] : LV)) ++ ([[Go.Value.int .u8 (binI BinOp.or .u8 (IntKind.wrap .u8 (binI BinOp.shr .u64 (binI BinOp.shr .u64 (ρ.i .u64 1) (7 : Int)) (7 : Int))) (128 : Int))]] : LV)) ++ ([[Go.Value.int .u8 (binI BinOp.or .u8 (IntKind.wrap .u8 (binI BinOp.shr .u64 (binI BinOp.shr .u64 (binI BinOp.shr .u64 (ρ.i .u64 1) (7 : Int)) (7 : Int)) (7 : Int))) (128 : Int))]] : LV)) ++ ([[Go.Value.int .u8 (binI BinOp.or .u8 (IntKind.wrap .u8 (binI BinOp.shr .u64 (binI BinOp.shr .u64 (binI BinOp.shr .u64 (binI BinOp.shr .u64 (ρ.i .u64 1) (7 : Int)) (7 : Int)) (7 : Int)) (7 : Int))) (128 : Int))]] : LV)) ++ ([[Go.Value.int .u8 (binI BinOp.or .u8 (IntKind.wrap .u8 (binI BinOp.shr .u64 (binI BinOp.shr .u64 (binI BinOp.shr .u64 (binI BinOp.shr .u64 (binI BinOp.shr .u64 (ρ.i .u64 1) (7 : Int)) (7 : Int)) (7 : Int)) (7 : Int)) (7 : Int))) (128 : Int))]] : LV)) ++ ([[Go.Value.int .u8 (binI BinOp.or .u8 (IntKind.wrap .u8 (binI BinOp.shr .u64 (binI BinOp.shr .u64 (binI BinOp.shr .u64 (binI BinOp.shr .u64 (binI BinOp.shr .u64 (binI BinOp.shr .u64 (ρ.i .u64 1) (7 : Int)) (7 : Int)) (7 : Int)) (7 : Int)) (7 : Int)) (7 : Int))) (128 : Int))]] : LV)) ++ ([[Go.Value.int .u8 (binI BinOp.or .u8 (IntKind.wrap .u8 (binI BinOp.shr .u64 (binI BinOp.shr .u64 (binI BinOp.shr .u64 (binI BinOp.shr .u64 (binI BinOp.shr .u64 (binI BinOp.shr .u64 (binI BinOp.shr .u64 (ρ.i .u64 1) (7 : Int)) (7 : Int)) (7 : Int)) (7 : Int)) (7 : Int)) (7 : Int)) (7 : Int))) (128 : Int))]] : LV)) ++ ([[Go.Value.int .u8 (IntKind.wrap .u8 (binI BinOp.shr .u64 (binI BinOp.shr .u64 (binI BinOp.shr .u64 (binI BinOp.shr .u64 (binI BinOp.shr .u64 (binI BinOp.shr .u64 (binI BinOp.shr .u64 (binI BinOp.shr .u64 (ρ.i .u64 1) (7 : Int)) (7 : Int)) (7 : Int)) (7 : Int)) (7 : Int)) (7 : Int)) (7 : Int)) (7 : Int)))]] : LV)) from ?_) (all_cons (show (((ρ.z.F.l 1 [.int .u64 (ρ.i .u64 1)]).length : Nat) : Int) = (9 : Int) from ?_) (all_nil))))
 all_goals try simp only [hF, pi2, pi3, pi4, pi5, pi6, pi7, pi20, pl1]
 all_goals
  have hc := u64_in (u64_rng kn.ok 1)
  have hr := u64_rng kn.ok 1
  simp only [pl1, hc]
  generalize ρ.i .u64 1 = n at *
  rw [show numL n = rowB (numF 9 n) from rfl]
  rw [numF_up (f := 8) (n := n) (by omega)]
  rw [numF_up (f := 7) (n := n / 128) (by omega)]
  rw [numF_up (f := 6) (n := (n / 128) / 128) (by omega)]
  rw [numF_up (f := 5) (n := ((n / 128) / 128) / 128) (by omega)]
  rw [numF_up (f := 4) (n := (((n / 128) / 128) / 128) / 128) (by omega)]
  rw [numF_up (f := 3) (n := ((((n / 128) / 128) / 128) / 128) / 128) (by omega)]
  rw [numF_up (f := 2) (n := (((((n / 128) / 128) / 128) / 128) / 128) / 128) (by omega)]
  rw [numF_up (f := 1) (n := ((((((n / 128) / 128) / 128) / 128) / 128) / 128) / 128) (by omega)]
  rw [numF_end (n := (((((((n / 128) / 128) / 128) / 128) / 128) / 128) / 128) / 128) (by omega)]
  first
   | rfl
   | (simp (disch := omega) only [shr7, or_low, rowB_cons, rowB_one]; try simp (disch := omega) only [wrap_low]; first | rfl | done | simp only [List.append_assoc])
theorem vcnumber_2 : VD TTnumber (st0 cNumber) wnumber_2 := by
 intro ρ kn hp
 have hF : ρ.z.F = oct.Φ := kn.F
 simp only [h_nil, h_cons, d_le, d_eq, d_not, d_var, d_lit, d_cel, d_leq, d_fn, d_and, d_iff, IE.den, LE.den, AL.den, lenV, true_and, and_true, pcnumber_7, pcnumber_6, pcnumber_5, pcnumber_4, pcnumber_3, pcnumber_2, pcnumber_1, pcnumber_0, hF, pi2, pi3, pi4, pi5, pi6, pi7, pi20, pl1] at hp
 obtain ⟨p1, p2, p3, p4, p5, p6, p7, p8⟩ := hp
 refine all_cons (show (((ρ.z.F.l 1 [.int .u64 (ρ.i .u64 1)]).length : Nat) : Int) = (8 : Int) from ?_) (all_cons (show (((ρ.z.F.l 1 [.int .u64 (ρ.i .u64 1)]).length : Nat) : Int) = (8 : Int) from ?_) (all_cons (show (ρ.z.F.l 1 [.int .u64 (ρ.i .u64 1)]) = (((((((([[Go.Value.int .u8 (binI BinOp.or .u8 (IntKind.wrap .u8 (ρ.i .u64 1)) (128 : Int))]] : LV) ++ ([[Go.Value.int .u8 (binI BinOp.or .u8 (IntKind.wrap .u8 (binI BinOp.shr .u64 (ρ.i .u64 1) (7 : Int))) (128 : Int))]] : LV)) ++ ([[Go.Value.int .u8 (binI BinOp.or .u8 (IntKind.wrap .u8 (binI BinOp.shr .u64 (binI BinOp.shr .u64 (ρ.i .u64 1) (7 : Int)) (7 : Int))) (128 : Int))]] : LV)) ++ ([[Go.Value.int .u8 (binI BinOp.or .u8 (IntKind.wrap .u8 (binI BinOp.shr .u64 (binI BinOp.shr .u64 (binI BinOp.shr .u64 (ρ.i .u64 1) (7 : Int)) (7 : Int)) (7 : Int))) (128 : Int))]] : LV)) ++ ([[Go.Value.int .u8 (binI BinOp.or .u8 (IntKind.wrap .u8 (binI BinOp.shr .u64 (binI BinOp.shr .u64 (binI BinOp.shr .u64 (binI BinOp.shr .u64 (ρ.i .u64 1) (7 : Int)) (7 : Int)) (7 : Int)) (7 : Int))) (128 : Int))]] : LV)) ++ ([[Go.Value.int .u8 (binI BinOp.or .u8 (IntKind.wrap .u8 (binI BinOp.shr .u64 (binI BinOp.shr .u64 (binI BinOp.shr .u64 (binI BinOp.shr .u64 (binI BinOp.shr .u64 (ρ.i .u64 1) (7 : Int)) (7 : Int)) (7 : Int)) (7 : Int)) (7 : Int))) (128 : Int))]] : LV)) ++ ([[Go.Value.int .u8 (binI BinOp.or .u8 (IntKind.wrap .u8 (binI BinOp.shr .u64 (binI BinOp.shr .u64 (binI BinOp.shr .u64 (binI BinOp.shr .u64 (binI BinOp.shr .u64 (binI BinOp.shr .u64 (ρ.i .u64 1) (7 : Int)) (7 : Int)) (7 : Int)) (7 : Int)) (7 : Int)) (7 : Int))) (128 : Int))]] : LV)) ++ ([[Go.Value.int .u8 (IntKind.wrap .u8 (binI BinOp.shr .u64 (binI BinOp.shr .u64 (binI BinOp.shr .u64 (binI BinOp.shr .u64 (binI BinOp.shr .u64 (binI BinOp.shr .u64 (binI BinOp.shr .u64 (ρ.i .u64 1) (7 : Int)) (7 : Int)) (7 : Int)) (7 : Int)) (7 : Int)) (7 : Int)) (7 : Int)))]] : LV)) from ?_) (all_cons (show (((ρ.z.F.l 1 [.int .u64 (ρ.i .u64 1)]).length : Nat) : Int) = (8 : Int) from ?_) (all_nil))))
 all_goals try simp only [hF, pi2, pi3, pi4, pi5, pi6, pi7, pi20, pl1]
 all_goals
  have hc := u64_in (u64_rng kn.ok 1)
  have hr := u64_rng kn.ok 1
  simp only [pl1, hc]
  generalize ρ.i .u64 1 = n at *
  rw [show numL n = rowB (numF 9 n) from rfl]
  rw [numF_up (f := 8) (n := n) (by omega)]
  rw [numF_up (f := 7) (n := n / 128) (by omega)]
  rw [numF_up (f := 6) (n := (n / 128) / 128) (by omega)]
  rw [numF_up (f := 5) (n := ((n / 128) / 128) / 128) (by omega)]
  rw [numF_up (f := 4) (n := (((n / 128) / 128) / 128) / 128) (by omega)]
  rw [numF_up (f := 3) (n := ((((n / 128) / 128) / 128) / 128) / 128) (by omega)]
  rw [numF_up (f := 2) (n := (((((n / 128) / 128) / 128) / 128) / 128) / 128) (by omega)]
  rw [numF_end (n := ((((((n / 128) / 128) / 128) / 128) / 128) / 128) / 128) (by omega)]
  first
   | rfl
   | (simp (disch := omega) only [shr7, or_low, rowB_cons, rowB_one]; try simp (disch := omega) only [wrap_low]; first | rfl | done | simp only [List.append_assoc])
theorem vcnumber_3 : VD TTnumber (st0 cNumber) wnumber_3 := by
 intro ρ kn hp
 have hF : ρ.z.F = oct.Φ := kn.F
 simp only [h_nil, h_cons, d_le, d_eq, d_not, d_var, d_lit, d_cel, d_leq, d_fn, d_and, d_iff, IE.den, LE.den, AL.den, lenV, true_and, and_true, pcnumber_6, pcnumber_5, pcnumber_4, pcnumber_3, pcnumber_2, pcnumber_1, pcnumber_0, hF, pi2, pi3, pi4, pi5, pi6, pi7, pi20, pl1] at hp
 obtain ⟨p1, p2, p3, p4, p5, p6, p7⟩ := hp
 refine all_cons (show (((ρ.z.F.l 1 [.int .u64 (ρ.i .u64 1)]).length : Nat) : Int) = (7 : Int) from ?_) (all_cons (show (((ρ.z.F.l 1 [.int .u64 (ρ.i .u64 1)]).length : Nat) : Int) = (7 : Int) from ?_) (all_cons (show (ρ.z.F.l 1 [.int .u64 (ρ.i .u64 1)]) = ((((((([[Go.Value.int .u8 (binI BinOp.or .u8 (IntKind.wrap .u8 (ρ.i .u64 1)) (128 : Int))]] : LV) ++ ([[Go.Value.int .u8 (binI BinOp.or .u8 (IntKind.wrap .u8 (binI BinOp.shr .u64 (ρ.i .u64 1) (7 : Int))) (128 : Int))]] : LV)) ++ ([[Go.Value.int .u8 (binI BinOp.or .u8 (IntKind.wrap .u8 (binI BinOp.shr .u64 (binI BinOp.shr .u64 (ρ.i .u64 1) (7 : Int)) (7 : Int))) (128 : Int))]] : LV)) ++ ([[Go.Value.int .u8 (binI BinOp.or .u8 (IntKind.wrap .u8 (binI BinOp.shr .u64 (binI BinOp.shr .u64 (binI BinOp.shr .u64 (ρ.i .u64 1) (7 : Int)) (7 : Int)) (7 : Int))) (128 : Int))]] : LV)) ++ ([[Go.Value.int .u8 (binI BinOp.or .u8 (IntKind.wrap .u8 (binI BinOp.shr .u64 (binI BinOp.shr .u64 (binI BinOp.shr .u64 (binI BinOp.shr .u64 (ρ.i .u64 1) (7 : Int)) (7 : Int)) (7 : Int)) (7 : Int))) (128 : Int))]] : LV)) ++ ([[Go.Value.int .u8 (binI BinOp.or .u8 (IntKind.wrap .u8 (binI BinOp.shr .u64 (binI BinOp.shr .u64 (binI BinOp.shr .u64 (binI BinOp.shr .u64 (binI BinOp.shr .u64 (ρ.i .u64 1) (7 : Int)) (7 : Int)) (7 : Int)) (7 : Int)) (7 : Int))) (128 : Int))]] : LV)) ++ ([[Go.Value.int .u8 (IntKind.wrap .u8 (binI BinOp.shr .u64 (binI BinOp.shr .u64 (binI BinOp.shr .u64 (binI BinOp.shr .u64 (binI BinOp.shr .u64 (binI BinOp.shr .u64 (ρ.i .u64 1) (7 : Int)) (7 : Int)) (7 : Int)) (7 : Int)) (7 : Int)) (7 : Int)))]] : LV)) from ?_) (all_cons (show (((ρ.z.F.l 1 [.int .u64 (ρ.i .u64 1)]).length : Nat) : Int) = (7 : Int) from ?_) (all_nil))))
 all_goals try simp only [hF, pi2, pi3, pi4, pi5, pi6, pi7, pi20, pl1]
 all_goals
  have hc := u64_in (u64_rng kn.ok 1)
  have hr := u64_rng kn.ok 1
  simp only [pl1, hc]
  generalize ρ.i .u64 1 = n at *
  rw [show numL n = rowB (numF 9 n) from rfl]
  rw [numF_up (f := 8) (n := n) (by omega)]
  rw [numF_up (f := 7) (n := n / 128) (by omega)]
  rw [numF_up (f := 6) (n := (n / 128) / 128) (by omega)]
  rw [numF_up (f := 5) (n := ((n / 128) / 128) / 128) (by omega)]
  rw [numF_up (f := 4) (n := (((n / 128) / 128) / 128) / 128) (by omega)]
  rw [numF_up (f := 3) (n := ((((n / 128) / 128) / 128) / 128) / 128) (by omega)]
  rw [numF_end (n := (((((n / 128) / 128) / 128) / 128) / 128) / 128) (by omega)]
  first
   | rfl
   | (simp (disch := omega) only [shr7, or_low, rowB_cons, rowB_one]; try simp (disch := omega) only [wrap_low]; first | rfl | done | simp only [List.append_assoc])
theorem vcnumber_4 : VD TTnumber (st0 cNumber) wnumber_4 := by
 intro ρ kn hp
 have hF : ρ.z.F = oct.Φ := kn.F
 simp only [h_nil, h_cons, d_le, d_eq, d_not, d_var, d_lit, d_cel, d_leq, d_fn, d_and, d_iff, IE.den, LE.den, AL.den, lenV, true_and, and_true, pcnumber_5, pcnumber_4, pcnumber_3, pcnumber_2, pcnumber_1, pcnumber_0, hF, pi2, pi3, pi4, pi5, pi6, pi7, pi20, pl1] at hp
 obtain ⟨p1, p2, p3, p4, p5, p6⟩ := hp
 refine all_cons (show (((ρ.z.F.l 1 [.int .u64 (ρ.i .u64 1)]).length : Nat) : Int) = (6 : Int) from ?_) (all_cons (show (((ρ.z.F.l 1 [.int .u64 (ρ.i .u64 1)]).length : Nat) : Int) = (6 : Int) from ?_) (all_cons (show (ρ.z.F.l 1 [.int .u64 (ρ.i .u64 1)]) = (((((([[Go.Value.int .u8 (binI BinOp.or .u8 (IntKind.wrap .u8 (ρ.i .u64 1)) (128 : Int))]] : LV) ++ ([[Go.Value.int .u8 (binI BinOp.or .u8 (IntKind.wrap .u8 (binI BinOp.shr .u64 (ρ.i .u64 1) (7 : Int))) (128 : Int))]] : LV)) ++ ([[Go.Value.int .u8 (binI BinOp.or .u8 (IntKind.wrap .u8 (binI BinOp.shr .u64 (binI BinOp.shr .u64 (ρ.i .u64 1) (7 : Int)) (7 : Int))) (128 : Int))]] : LV)) ++ ([[Go.Value.int .u8 (binI BinOp.or .u8 (IntKind.wrap .u8 (binI BinOp.shr .u64 (binI BinOp.shr .u64 (binI BinOp.shr .u64 (ρ.i .u64 1) (7 : Int)) (7 : Int)) (7 : Int))) (128 : Int))]] : LV)) ++ ([[Go.Value.int .u8 (binI BinOp.or .u8 (IntKind.wrap .u8 (binI BinOp.shr .u64 (binI BinOp.shr .u64 (binI BinOp.shr .u64 (binI BinOp.shr .u64 (ρ.i .u64 1) (7 : Int)) (7 : Int)) (7 : Int)) (7 : Int))) (128 : Int))]] : LV)) ++ ([[Go.Value.int .u8 (IntKind.wrap .u8 (binI BinOp.shr .u64 (binI BinOp.shr .u64 (binI BinOp.shr .u64 (binI BinOp.shr .u64 (binI BinOp.shr .u64 (ρ.i .u64 1) (7 : Int)) (7 : Int)) (7 : Int)) (7 : Int)) (7 : Int)))]] : LV)) from ?_) (all_cons (show (((ρ.z.F.l 1 [.int .u64 (ρ.i .u64 1)]).length : Nat) : Int) = (6 : Int) from ?_) (all_nil))))
 all_goals try simp only [hF, pi2, pi3, pi4, pi5, pi6, pi7, pi20, pl1]
 all_goals
  have hc := u64_in (u64_rng kn.ok 1)
  have hr := u64_rng kn.ok 1
  simp only [pl1, hc]
  generalize ρ.i .u64 1 = n at *
  rw [show numL n = rowB (numF 9 n) from rfl]
  rw [numF_up (f := 8) (n := n) (by omega)]
  rw [numF_up (f := 7) (n := n / 128) (by omega)]
  rw [numF_up (f := 6) (n := (n / 128) / 128) (by omega)]
  rw [numF_up (f := 5) (n := ((n / 128) / 128) / 128) (by omega)]
  rw [numF_up (f := 4) (n := (((n / 128) / 128) / 128) / 128) (by omega)]
  rw [numF_end (n := ((((n / 128) / 128) / 128) / 128) / 128) (by omega)]
  first
   | rfl
   | (simp (disch := omega) only [shr7, or_low, rowB_cons, rowB_one]; try simp (disch := omega) only [wrap_low]; first | rfl | done | simp only [List.append_assoc])
theorem vcnumber_5 : VD TTnumber (st0 cNumber) wnumber_5 := by
 intro ρ kn hp
 have hF : ρ.z.F = oct.Φ := kn.F
 simp only [h_nil, h_cons, d_le, d_eq, d_not, d_var, d_lit, d_cel, d_leq, d_fn, d_and, d_iff, IE.den, LE.den, AL.den, lenV, true_and, and_true, pcnumber_4, pcnumber_3, pcnumber_2, pcnumber_1, pcnumber_0, hF, pi2, pi3, pi4, pi5, pi6, pi7, pi20, pl1] at hp
 obtain ⟨p1, p2, p3, p4, p5⟩ := hp
 refine all_cons (show (((ρ.z.F.l 1 [.int .u64 (ρ.i .u64 1)]).length : Nat) : Int) = (5 : Int) from ?_) (all_cons (show (((ρ.z.F.l 1 [.int .u64 (ρ.i .u64 1)]).length : Nat) : Int) = (5 : Int) from ?_) (all_cons (show (ρ.z.F.l 1 [.int .u64 (ρ.i .u64 1)]) = ((((([[Go.Value.int .u8 (binI BinOp.or .u8 (IntKind.wrap .u8 (ρ.i .u64 1)) (128 : Int))]] : LV) ++ ([[Go.Value.int .u8 (binI BinOp.or .u8 (IntKind.wrap .u8 (binI BinOp.shr .u64 (ρ.i .u64 1) (7 : Int))) (128 : Int))]] : LV)) ++ ([[Go.Value.int .u8 (binI BinOp.or .u8 (IntKind.wrap .u8 (binI BinOp.shr .u64 (binI BinOp.shr .u64 (ρ.i .u64 1) (7 : Int)) (7 : Int))) (128 : Int))]] : LV)) ++ ([[Go.Value.int .u8 (binI BinOp.or .u8 (IntKind.wrap .u8 (binI BinOp.shr .u64 (binI BinOp.shr .u64 (binI BinOp.shr .u64 (ρ.i .u64 1) (7 : Int)) (7 : Int)) (7 : Int))) (128 : Int))]] : LV)) ++ ([[Go.Value.int .u8 (IntKind.wrap .u8 (binI BinOp.shr .u64 (binI BinOp.shr .u64 (binI BinOp.shr .u64 (binI BinOp.shr .u64 (ρ.i .u64 1) (7 : Int)) (7 : Int)) (7 : Int)) (7 : Int)))]] : LV)) from ?_) (all_cons (show (((ρ.z.F.l 1 [.int .u64 (ρ.i .u64 1)]).length : Nat) : Int) = (5 : Int) from ?_) (all_nil))))
 all_goals try simp only [hF, pi2, pi3, pi4, pi5, pi6, pi7, pi20, pl1]
 all_goals
  have hc := u64_in (u64_rng kn.ok 1)
  have hr := u64_rng kn.ok 1
  simp only [pl1, hc]
  generalize ρ.i .u64 1 = n at *
  rw [show numL n = rowB (numF 9 n) from rfl]
  rw [numF_up (f := 8) (n := n) (by omega)]
  rw [numF_up (f := 7) (n := n / 128) (by omega)]
  rw [numF_up (f := 6) (n := (n / 128) / 128) (by omega)]
  rw [numF_up (f := 5) (n := ((n / 128) / 128) / 128) (by omega)]
  rw [numF_end (n := (((n / 128) / 128) / 128) / 128) (by omega)]
  first
   | rfl
   | (simp (disch := omega) only [shr7, or_low, rowB_cons, rowB_one]; try simp (disch := omega) only [wrap_low]; first | rfl | done | simp only [List.append_assoc])
theorem vcnumber_6 : VD TTnumber (st0 cNumber) wnumber_6 := by
 intro ρ kn hp
 have hF : ρ.z.F = oct.Φ := kn.F
 simp only [h_nil, h_cons, d_le, d_eq, d_not, d_var, d_lit, d_cel, d_leq, d_fn, d_and, d_iff, IE.den, LE.den, AL.den, lenV, true_and, and_true, pcnumber_3, pcnumber_2, pcnumber_1, pcnumber_0, hF, pi2, pi3, pi4, pi5, pi6, pi7, pi20, pl1] at hp
 obtain ⟨p1, p2, p3, p4⟩ := hp
 refine all_cons (show (((ρ.z.F.l 1 [.int .u64 (ρ.i .u64 1)]).length : Nat) : Int) = (4 : Int) from ?_) (all_cons (show (((ρ.z.F.l 1 [.int .u64 (ρ.i .u64 1)]).length : Nat) : Int) = (4 : Int) from ?_) (all_cons (show (ρ.z.F.l 1 [.int .u64 (ρ.i .u64 1)]) = (((([[Go.Value.int .u8 (binI BinOp.or .u8 (IntKind.wrap .u8 (ρ.i .u64 1)) (128 : Int))]] : LV) ++ ([[Go.Value.int .u8 (binI BinOp.or .u8 (IntKind.wrap .u8 (binI BinOp.shr .u64 (ρ.i .u64 1) (7 : Int))) (128 : Int))]] : LV)) ++ ([[Go.Value.int .u8 (binI BinOp.or .u8 (IntKind.wrap .u8 (binI BinOp.shr .u64 (binI BinOp.shr .u64 (ρ.i .u64 1) (7 : Int)) (7 : Int))) (128 : Int))]] : LV)) ++ ([[Go.Value.int .u8 (IntKind.wrap .u8 (binI BinOp.shr .u64 (binI BinOp.shr .u64 (binI BinOp.shr .u64 (ρ.i .u64 1) (7 : Int)) (7 : Int)) (7 : Int)))]] : LV)) from ?_) (all_cons (show (((ρ.z.F.l 1 [.int .u64 (ρ.i .u64 1)]).length : Nat) : Int) = (4 : Int) from ?_) (all_nil))))
 all_goals try simp only [hF, pi2, pi3, pi4, pi5, pi6, pi7, pi20, pl1]
 all_goals
  have hc := u64_in (u64_rng kn.ok 1)
  have hr := u64_rng kn.ok 1
  simp only [pl1, hc]
  generalize ρ.i .u64 1 = n at *
  rw [show numL n = rowB (numF 9 n) from rfl]
  rw [numF_up (f := 8) (n := n) (by omega)]
  rw [numF_up (f := 7) (n := n / 128) (by omega)]
  rw [numF_up (f := 6) (n := (n / 128) / 128) (by omega)]
  rw [numF_end (n := ((n / 128) / 128) / 128) (by omega)]
  first
   | rfl
   | (simp (disch := omega) only [shr7, or_low, rowB_cons, rowB_one]; try simp (disch := omega) only [wrap_low]; first | rfl | done | simp only [List.append_assoc])
theorem vcnumber_7 : VD TTnumber (st0 cNumber) wnumber_7 := by
 intro ρ kn hp
 have hF : ρ.z.F = oct.Φ := kn.F
 simp only [h_nil, h_cons, d_le, d_eq, d_not, d_var, d_lit, d_cel, d_leq, d_fn, d_and, d_iff, IE.den, LE.den, AL.den, lenV, true_and, and_true, pcnumber_2, pcnumber_1, pcnumber_0, hF, pi2, pi3, pi4, pi5, pi6, pi7, pi20, pl1] at hp
 obtain ⟨p1, p2, p3⟩ := hp
 refine all_cons (show (((ρ.z.F.l 1 [.int .u64 (ρ.i .u64 1)]).length : Nat) : Int) = (3 : Int) from ?_) (all_cons (show (((ρ.z.F.l 1 [.int .u64 (ρ.i .u64 1)]).length : Nat) : Int) = (3 : Int) from ?_) (all_cons (show (ρ.z.F.l 1 [.int .u64 (ρ.i .u64 1)]) = ((([[Go.Value.int .u8 (binI BinOp.or .u8 (IntKind.wrap .u8 (ρ.i .u64 1)) (128 : Int))]] : LV) ++ ([[Go.Value.int .u8 (binI BinOp.or .u8 (IntKind.wrap .u8 (binI BinOp.shr .u64 (ρ.i .u64 1) (7 : Int))) (128 : Int))]] : LV)) ++ ([[Go.Value.int .u8 (IntKind.wrap .u8 (binI BinOp.shr .u64 (binI BinOp.shr .u64 (ρ.i .u64 1) (7 : Int)) (7 : Int)))]] : LV)) from ?_) (all_cons (show (((ρ.z.F.l 1 [.int .u64 (ρ.i .u64 1)]).length : Nat) : Int) = (3 : Int) from ?_) (all_nil))))
 all_goals try simp only [hF, pi2, pi3, pi4, pi5, pi6, pi7, pi20, pl1]
 all_goals
  have hc := u64_in (u64_rng kn.ok 1)
  have hr := u64_rng kn.ok 1
  simp only [pl1, hc]
  generalize ρ.i .u64 1 = n at *
  rw [show numL n = rowB (numF 9 n) from rfl]
  rw [numF_up (f := 8) (n := n) (by omega)]
  rw [numF_up (f := 7) (n := n / 128) (by omega)]
  rw [numF_end (n := (n / 128) / 128) (by omega)]
  first
   | rfl
   | (simp (disch := omega) only [shr7, or_low, rowB_cons, rowB_one]; try simp (disch := omega) only [wrap_low]; first | rfl | done | simp only [List.append_assoc])
theorem vcnumber_8 : VD TTnumber (st0 cNumber) wnumber_8 := by
 intro ρ kn hp
 have hF : ρ.z.F = oct.Φ := kn.F
 simp only [h_nil, h_cons, d_le, d_eq, d_not, d_var, d_lit, d_cel, d_leq, d_fn, d_and, d_iff, IE.den, LE.den, AL.den, lenV, true_and, and_true, pcnumber_1, pcnumber_0, hF, pi2, pi3, pi4, pi5, pi6, pi7, pi20, pl1] at hp
 obtain ⟨p1, p2⟩ := hp
 refine all_cons (show (((ρ.z.F.l 1 [.int .u64 (ρ.i .u64 1)]).length : Nat) : Int) = (2 : Int) from ?_) (all_cons (show (((ρ.z.F.l 1 [.int .u64 (ρ.i .u64 1)]).length : Nat) : Int) = (2 : Int) from ?_) (all_cons (show (ρ.z.F.l 1 [.int .u64 (ρ.i .u64 1)]) = (([[Go.Value.int .u8 (binI BinOp.or .u8 (IntKind.wrap .u8 (ρ.i .u64 1)) (128 : Int))]] : LV) ++ ([[Go.Value.int .u8 (IntKind.wrap .u8 (binI BinOp.shr .u64 (ρ.i .u64 1) (7 : Int)))]] : LV)) from ?_) (all_cons (show (((ρ.z.F.l 1 [.int .u64 (ρ.i .u64 1)]).length : Nat) : Int) = (2 : Int) from ?_) (all_nil))))
 all_goals try simp only [hF, pi2, pi3, pi4, pi5, pi6, pi7, pi20, pl1]
 all_goals
  have hc := u64_in (u64_rng kn.ok 1)
  have hr := u64_rng kn.ok 1
  simp only [pl1, hc]
  generalize ρ.i .u64 1 = n at *
  rw [show numL n = rowB (numF 9 n) from rfl]
  rw [numF_up (f := 8) (n := n) (by omega)]
  rw [numF_end (n := n / 128) (by omega)]
  first
   | rfl
   | (simp (disch := omega) only [shr7, or_low, rowB_cons, rowB_one]; try simp (disch := omega) only [wrap_low]; first | rfl | done | simp only [List.append_assoc])
theorem vcnumber_9 : VD TTnumber (st0 cNumber) wnumber_9 := by
 intro ρ kn hp
 have hF : ρ.z.F = oct.Φ := kn.F
 simp only [h_nil, h_cons, d_le, d_eq, d_not, d_var, d_lit, d_cel, d_leq, d_fn, d_and, d_iff, IE.den, LE.den, AL.den, lenV, true_and, and_true, pcnumber_0, hF, pi2, pi3, pi4, pi5, pi6, pi7, pi20, pl1] at hp
 have p1 := hp
 refine all_cons (show (((ρ.z.F.l 1 [.int .u64 (ρ.i .u64 1)]).length : Nat) : Int) = (1 : Int) from ?_) (all_cons (show (((ρ.z.F.l 1 [.int .u64 (ρ.i .u64 1)]).length : Nat) : Int) = (1 : Int) from ?_) (all_cons (show (ρ.z.F.l 1 [.int .u64 (ρ.i .u64 1)]) = ([[Go.Value.int .u8 (ρ.i .u64 1)]] : LV) from ?_) (all_cons (show (((ρ.z.F.l 1 [.int .u64 (ρ.i .u64 1)]).length : Nat) : Int) = (1 : Int) from ?_) (all_nil))))
 all_goals try simp only [hF, pi2, pi3, pi4, pi5, pi6, pi7, pi20, pl1]
 all_goals
  have hc := u64_in (u64_rng kn.ok 1)
  have hr := u64_rng kn.ok 1
  simp only [pl1, hc]
  generalize ρ.i .u64 1 = n at *
  rw [show numL n = rowB (numF 9 n) from rfl]
  rw [numF_end (n := n) (by omega)]
  first
   | rfl
   | (simp (disch := omega) only [shr7, or_low, rowB_cons, rowB_one]; try simp (disch := omega) only [wrap_low]; first | rfl | done | simp only [List.append_assoc])
theorem told_number : Sx.Told oct.Φ cNumber := told_vw (cs := []) (all_nil) 9000 vwnumber (by kernel_rfl) (by kernel_rfl) (by kernel_rfl) post_number (by kernel_rfl) (by kernel_rfl) (all_cons vcnumber_0 (all_cons vcnumber_1 (all_cons vcnumber_2 (all_cons vcnumber_3 (all_cons vcnumber_4 (all_cons vcnumber_5 (all_cons vcnumber_6 (all_cons vcnumber_7 (all_cons vcnumber_8 (all_cons vcnumber_9 (all_nil)))))))))))
end Go.Proofs.YtllojpnpfhaniaaGreat.oct
