/- Worlds that have only grown, step by step. -/
import Derived.Test.YtamndmlaikgogaaBase
namespace Go.Proofs.Ytamndmlaikgogaa.base
open Go.RowKit Go.WideShapes Go.ChangeShapes
set_option linter.unusedVariables false
section
variable {W w w' : World}
theorem kept {p : Addr} {v : Value} (h : W.cell? p = some v) (hb : Below W.heap.size W w) : w.cell? p = some v :=
  (hb.cell (World.block_lt_of_cell? W p h)).trans h
theorem bel_call (h : Below W.heap.size W w) (hb : Below w.heap.size w w') : Below W.heap.size W w' := h.trans (hb.mono h.size)
theorem bel_alloc (h : Below W.heap.size W w) (o : Obj) : Below W.heap.size W (w.alloc o) := h.alloc h.size o
theorem bel_drew (h : Below W.heap.size W w) : Below W.heap.size W w.drew := h.drew
theorem bel_set (h : Below W.heap.size W w) {p : Addr} (hp : W.heap.size ≤ p.block) (v : Value) : Below W.heap.size W (w.setCell p v) := h.setCell hp v
end
end Go.Proofs.Ytamndmlaikgogaa.base
