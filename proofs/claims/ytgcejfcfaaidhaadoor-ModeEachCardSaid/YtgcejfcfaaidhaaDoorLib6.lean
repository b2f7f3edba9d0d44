/- One block that counts, beside others that stay. No condition. -/
import Derived.Test.YtgcejfcfaaidhaaDoorLib5
set_option linter.unusedSimpArgs false
set_option linter.unusedVariables false
namespace Go.Proofs.YtgcejfcfaaidhaaDoor
open Go.RowKit

theorem Oth.below {S : List Nat} {W0 X Y : World} (h : Oth S W0 X) (hB : Below W0.heap.size X Y) : Oth S W0 Y :=
  ⟨hB.os.trans h.os, hB.tape.trans h.tape, hB.output.trans h.output, Nat.le_trans h.size hB.size, fun k hk hn => (hB.block k hk).trans (h.block k hk hn)⟩
/-- One block counts; of what lay beside it nothing has turned. -/
structure Cnt (W0 : World) (n : Nat) (t : TypeId) (v : Value) (X : World) : Prop where
  oth : Oth [n] W0 X
  blk : X.heap[n]? = some (.cells #[v] t (0, 0))
theorem Cnt.below {W0 X Y : World} {n : Nat} {t : TypeId} {v : Value} (h : Cnt W0 n t v X) (hn : n < W0.heap.size) (hB : Below W0.heap.size X Y) : Cnt W0 n t v Y :=
  ⟨h.oth.below hB, (hB.block n hn).trans h.blk⟩
theorem Cnt.cell {W0 X : World} {n : Nat} {t : TypeId} {v : Value} (h : Cnt W0 n t v X) : X.cell? ⟨n, 0, none⟩ = some v := by rw [bcell h.blk]; rfl
theorem Cnt.froz {W0 X : World} {n : Nat} {t : TypeId} {v : Value} (h : Cnt W0 n t v X) : X.frozen? ⟨n, 0, none⟩ = false := bfroz h.blk 0
theorem Cnt.other {W0 X : World} {n : Nat} {t : TypeId} {v : Value} (h : Cnt W0 n t v X) {a : Addr} {u : Value} (hc : W0.cell? a = some u) (hn : a.block ≠ n) : X.cell? a = some u :=
  (World.cell?_of_block (h.oth.block a.block (World.block_lt_of_cell? W0 _ hc) (by simpa using hn))).trans hc
theorem Cnt.set {W0 X : World} {n : Nat} {t : TypeId} {v u : Value} (h : Cnt W0 n t v X) : Cnt W0 n t u (X.setCell ⟨n, 0, none⟩ u) :=
  ⟨h.oth.set (.inl (by simp)) _, by simpa using bset h.blk 0 u⟩
theorem Cnt.grow {W0 X Y : World} {n : Nat} {t : TypeId} {v : Value} (h : Cnt W0 n t v X) (hg : X.grownBy Y none) : Cnt W0 n t v Y :=
  ⟨h.oth.grown hg (by simp), heap_grown hg h.blk⟩
theorem Cnt.init {W0 : World} {n : Nat} {t : TypeId} {v : Value} (h : W0.heap[n]? = some (.cells #[v] t (0, 0))) : Cnt W0 n t v W0 := ⟨Oth.refl _ _, h⟩
theorem Cnt.grown {W0 X b : World} {n : Nat} {t : TypeId} {v : Value} (h : Cnt W0 n t v X) (hg : b.grownBy W0 none) (hn : b.heap.size ≤ n) : b.grownBy X none :=
  ((Oth.ofGrown hg (by simp) : Oth [n] b W0).trans h.oth).new (by simpa using hn)
end Go.Proofs.YtgcejfcfaaidhaaDoor
