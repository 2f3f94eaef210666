/-
  Contracts of CellsOf and WidthOf: the specification's.
-/
import Derived.Test.YtjgmkcmlkffjlaaDoorCells1
namespace Go.Proofs.YtjgmkcmlkffjlaaDoor
open Go.RowKit
set_option linter.unusedVariables false

/-- What CellsOf tells. -/
def cellsCode (xs : List Int) : Int := if 400 < xs.length then 2 else 0
def cellsRes (xs : List Int) : List C3 := if 400 < xs.length then [] else cellsAll xs

/-- What WidthOf tells. -/
def widthVal (xs : List Int) : Value := .agg #[.int .i64 (cellsCode xs), .int .i64 (cellsRes xs).length]

end Go.Proofs.YtjgmkcmlkffjlaaDoor