/-
  Contracts of the functions that read a character: the specification's.
-/
import Derived.Test.YthdglflipeggpaaChars
import Derived.Test.YthdglflipeggpaaMath2
namespace Go.Proofs.Ythdglflipeggpaa
open Go.RowKit
set_option linter.unusedVariables false

end Go.Proofs.Ythdglflipeggpaa