/-
  The program's LinesIn: its contract.
-/
import Derived.Test.YtjgmkcmlkffjlaaDoorLines3
import Derived.Test.YtjgmkcmlkffjlaaDoorLines1
import Derived.Test.YtjgmkcmlkffjlaaDoorBox
import Derived.Maps.AppendAt
namespace Go.Proofs.YtjgmkcmlkffjlaaDoor
open Go.RowKit Go.Shelf
set_option linter.unusedVariables false
attribute [local go_sem] Oper.semAt_some lineEncs

theorem kept2_b {n₀ Bn : Nat} {w : World} (hn : n₀ ≤ w.heap.size) (hb : Bn < w.heap.size) (W : World) (l : Nat) (o o' : Obj) (hl : w.heap.size ≤ l) (h : W.heap[l]? = some o) (h1 : o.isCells = false) (h2 : o.isWalk = false) : Kept2 n₀ Bn W (W.putObj l o') :=
  ⟨belowK_b hn W l o o' hl h h1 h2, World.putObj_heap_other (by omega)⟩

end Go.Proofs.YtjgmkcmlkffjlaaDoor