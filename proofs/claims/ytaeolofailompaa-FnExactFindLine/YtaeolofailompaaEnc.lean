/-
  Contracts of EncodeChar: the specification's and the program's; of the helpers over its result.
-/
import Derived.Test.YtaeolofailompaaHlpCA
namespace Go.Proofs.Ytaeolofailompaa
open Go.RowKit

end Go.Proofs.Ytaeolofailompaa