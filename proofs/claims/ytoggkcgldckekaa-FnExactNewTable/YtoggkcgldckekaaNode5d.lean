/-
  Chapter 5: the specification's NodesFault.
-/
import Derived.Test.YtoggkcgldckekaaNode5c
import Derived.Test.YtoggkcgldckekaaNode5b
namespace Go.Proofs.Ytoggkcgldckekaa
open Go.RowKit
set_option linter.unusedVariables false
set_option linter.unusedSimpArgs false

end Go.Proofs.Ytoggkcgldckekaa