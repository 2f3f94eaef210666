/-
  Contracts of the functions that read a character: the specification's.
-/
import Derived.Test.YtjhlmhehojjgfaaChars
import Derived.Test.YtjhlmhehojjgfaaMath2
namespace Go.Proofs.Ytjhlmhehojjgfaa
open Go.RowKit
set_option linter.unusedVariables false

end Go.Proofs.Ytjhlmhehojjgfaa