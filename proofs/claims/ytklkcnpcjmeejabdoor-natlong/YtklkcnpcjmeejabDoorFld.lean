/- The document's own May and Fields, and the laws' same. -/
import Derived.Test.YtklkcnpcjmeejabDoorMul
import Derived.BigQuiet
namespace Go.Proofs.YtklkcnpcjmeejabDoor
open Go.RowKit Fo
set_option maxRecDepth 100000

namespace Fo
/-- May it be? -/
def mayB (i : Bool) (n : Nat) (L : Nat → Nat) : Bool := if i then decide (n = 0) else (decide (n = 0) || decide (L (n - 1) ≠ 0))
end Fo
theorem block_cell {W w2 : World} {g j : Nat} {cs : Array Value} {t : TypeId} (h : W.heap[g]? = some (.cells cs t)) (hB : Below W.heap.size W w2) : w2.cell? ⟨g, j, none⟩ = cs[j]? := by
  have hlt : g < W.heap.size := (Array.getElem?_eq_some_iff.1 h).1
  have h2 : w2.heap[g]? = some (.cells cs t) := (hB.block g hlt).trans h
  exact cell_of_row w2 g j cs t (0, 0) h2
end Go.Proofs.YtklkcnpcjmeejabDoor
