/-
  Contracts of the functions that read a character: the specification's.
-/
import Derived.Test.YtocophekfbhfbaaHlpCA
import Derived.Test.YtocophekfbhfbaaMath2
namespace Go.Proofs.Ytocophekfbhfbaa
open Go.RowKit
set_option linter.unusedVariables false

end Go.Proofs.Ytocophekfbhfbaa