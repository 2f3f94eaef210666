/-
  Contracts of EncodeChar: the specification's and the program's; of the helpers over its result.
-/
import Derived.Test.YtlemdjgpkmjihaaHlpCA
namespace Go.Proofs.Ytlemdjgpkmjihaa
open Go.RowKit

end Go.Proofs.Ytlemdjgpkmjihaa