/-
  Contracts of EncodeChar: the specification's and the program's; of the helpers over its result.
-/
import Derived.Test.YtlemdjgpkmjihaaGreatHlpCA
namespace Go.Proofs.YtlemdjgpkmjihaaGreat
open Go.RowKit

end Go.Proofs.YtlemdjgpkmjihaaGreat