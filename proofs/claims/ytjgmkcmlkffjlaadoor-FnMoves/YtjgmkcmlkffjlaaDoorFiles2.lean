/-
  Contracts of AppendFile and CutFile, the specification's and the program's.
-/
import Derived.Test.YtjgmkcmlkffjlaaDoorFiles1
namespace Go.Proofs.YtjgmkcmlkffjlaaDoor
open Go.RowKit
set_option linter.unusedVariables false

/-- What a call leaves whose result lies in a box: the box of an argument and the result's own box. -/
theorem below_two (w : World) (o1 o2 : Obj) : Below w.heap.size w ((w.alloc o1).alloc o2) := ((Below.refl _ _).alloc (Nat.le_refl _) o1).alloc (by simp) o2

end Go.Proofs.YtjgmkcmlkffjlaaDoor
